/-
  spec.l9Case: an expression and a path are drawn.
-/
import Derived.Test.YtiefobkddckkbaaCaseS
import Derived.Test.YtiefobkddckkbaaPathsS
import Derived.Test.YtiefobkddckkbaaTreeP
import Derived.Deep.RegionHeld3
namespace Go.Proofs.Ytiefobkddckkbaa
open Go.RowKit Go.Shelf
set_option maxRecDepth 100000

theorem pathsB_short {p : Nd} {zs : List Int} (h : zs ∈ pathsB p) : zs.length ≤ 80 := by
  unfold pathsB at h
  split at h
  · rename_i hv
    exact Nat.le_trans (pathsP_short h) (nd_small hv)
  · cases h

/-- One of the lists, with its room. -/
theorem OwnSS.one {w : World} {base : Nat} {A : Option Addr} {l c : Nat} {zss : List (List Int)} {bs : List Nat} (h : OwnSS w base (.slice A l c) zss bs) {i : Nat} {zs : List Int} (hi : zss[i]? = some zs) :
    ∃ g A' c', A = some ⟨g, 0, none⟩ ∧ base ≤ g ∧ g < w.heap.size ∧ w.cell? ⟨g, 0 + i, none⟩ = some (.slice A' zs.length c') ∧ LiesI w base w.heap.size A' zs ∧ zs.length ≤ c' ∧ c' ≤ maxLen := by
  obtain ⟨st, b1, h0, h1, h2, rfl, h4⟩ := h
  rw [← h0, List.getElem?_map] at hi
  cases hs : st[i]? with
  | none => rw [hs] at hi; cases hi
  | some x =>
    rw [hs] at hi
    simp only [Option.map_some, Option.some.injEq] at hi
    subst hi
    obtain ⟨g1, g2, _⟩ := h2.at_ hs
    obtain ⟨A', c', hv, hl⟩ := own_ints g1 g2
    injection hv with e1 _ e3
    obtain ⟨A2, c2, hv2, hm, hx⟩ := own_slice g1
    injection hv2 with f1 _ f3
    have hcell : (st.map Hd.val)[i]? = some x.val := by rw [List.getElem?_map, hs]; rfl
    rcases h1.2 with ⟨_, hn⟩ | ⟨g, cap, cur, hv2, hq, hh, _⟩
    · have h5 : (st.map Hd.val).length = 0 := by rw [h1.1, hn]
      have h6 := (List.getElem?_eq_some_iff.1 hcell).1
      omega
    · injection hv2 with e4
      subst e4
      have hc := h1.cells (g := g) rfl i _ hcell
      rw [add_plainP, Nat.zero_add] at hc
      exact ⟨g, x.A, x.c, rfl, hq, (Array.getElem?_eq_some_iff.1 hh).1, by rw [Nat.zero_add]; exact hc, by rw [e1]; exact hl, by rw [f3]; exact hm, by rw [f3]; exact hx⟩

theorem cell_set3 {w : World} {a p q r : Addr} {x : Value} (h : w.cell? a = some x) (hp : a.block ≠ p.block) (hq : a.block ≠ q.block) (hr : a.block ≠ r.block) (u v t : Value) : (((w.setCell p u).setCell q v).setCell r t).cell? a = some x :=
  (World.cell?_of_block (w := w) (by rw [Below.heap_setCell _ _ _ _ hr, Below.heap_setCell _ _ _ _ hq, Below.heap_setCell _ _ _ _ hp])).trans h
theorem cells3_set3 {w : World} {g b : Nat} {x0 x1 x2 : Value} (h : w.cell? ⟨g, 0, none⟩ = some x0 ∧ w.cell? ⟨g, 1, none⟩ = some x1 ∧ w.cell? ⟨g, 2, none⟩ = some x2) (hb : g ≠ b) (u v t : Value) :
    (((w.setCell ⟨b, 0, none⟩ u).setCell ⟨b, 1, none⟩ v).setCell ⟨b, 2, none⟩ t).cell? ⟨g, 0, none⟩ = some x0 ∧ (((w.setCell ⟨b, 0, none⟩ u).setCell ⟨b, 1, none⟩ v).setCell ⟨b, 2, none⟩ t).cell? ⟨g, 1, none⟩ = some x1 ∧ (((w.setCell ⟨b, 0, none⟩ u).setCell ⟨b, 1, none⟩ v).setCell ⟨b, 2, none⟩ t).cell? ⟨g, 2, none⟩ = some x2 :=
  ⟨cell_set3 h.1 hb hb hb u v t, cell_set3 h.2.1 hb hb hb u v t, cell_set3 h.2.2 hb hb hb u v t⟩
theorem cells3_alloc {w : World} {g : Nat} {x0 x1 x2 : Value} (h : w.cell? ⟨g, 0, none⟩ = some x0 ∧ w.cell? ⟨g, 1, none⟩ = some x1 ∧ w.cell? ⟨g, 2, none⟩ = some x2) (hg : g < w.heap.size) (o : Obj) :
    (w.alloc o).cell? ⟨g, 0, none⟩ = some x0 ∧ (w.alloc o).cell? ⟨g, 1, none⟩ = some x1 ∧ (w.alloc o).cell? ⟨g, 2, none⟩ = some x2 :=
  have hb := (Below.refl w.heap.size w).alloc (Nat.le_refl _) o
  ⟨(hb.cell (p := ⟨g, 0, none⟩) hg).trans h.1, (hb.cell (p := ⟨g, 1, none⟩) hg).trans h.2.1, (hb.cell (p := ⟨g, 2, none⟩) hg).trans h.2.2⟩

def PathDrawn (w : World) (e : Ending) (w' : World) : Prop :=
  ∃ op n k X c zs A2 c2, e = .returned (.tuple #[.agg #[.int .i64 op, .int .i64 n, .slice X (Fo.len k) c], .slice A2 (List.length zs) c2]) ∧ Drawn w' w.heap.size op n k X c ∧ LiesI w' w.heap.size w'.heap.size A2 zs ∧ zs.length ≤ c2 ∧ c2 ≤ maxLen ∧ zs.length ≤ 1048576 ∧ Below w.heap.size w w'

theorem drawn_end {w W wz : World} {op n : Int} {k : Fo} {X : Option Addr} {c : Nat} {bl : List Nat} {zs : List Int} {A2 : Option Addr} {c2 : Nat} (hB : Below w.heap.size w W) (ho : Only w.heap.size W.heap.size W wz) (ht : Tree W (w.heap.size + 1) (.slice X k.len c) k bl)
    (hi : I64 op ∧ I64 n) (hs : k.size ≤ 500300) (hl : LiesI wz w.heap.size wz.heap.size A2 zs) (h1 : zs.length ≤ c2) (h2 : c2 ≤ maxLen) (h3 : zs.length ≤ 1048576) : PathDrawn w (.returned (.tuple #[.agg #[.int .i64 op, .int .i64 n, .slice X k.len c], .slice A2 zs.length c2])) wz :=
  ⟨op, n, k, X, c, zs, A2, c2, rfl, ⟨bl, hi, (ht.keep fun z hz => ho.block z (ht.lt z hz).2 (by have := (ht.lt z hz).1; omega)).lower (Nat.le_succ _), hs⟩, hl, h1, h2, h3, hB.trans ((ho.mono hB.size).below (Nat.le_refl _))⟩

set_option maxHeartbeats 4000000 in
theorem l9Case_any (A : Option Addr) (bc : Nat) (bs : List Nat) (w : World) (hB : LiesY w 0 w.heap.size A bs) (hl : bs.length ≤ bc) (hc : bc ≤ maxLen) :
    Calls Try.prog 26 #[.slice A bs.length bc] w (PathDrawn w) := by
  obtain ⟨W1, hW1⟩ : ∃ W1, W1 = w.alloc (Obj.cells #[.int .i64 0, .int .i64 0, .slice none 0 0] 33) := ⟨_, rfl⟩
  have hb1 : Below w.heap.size w W1 := by rw [hW1]; exact (Below.refl _ _).alloc (Nat.le_refl _) _
  have hx1 : Row W1 w.heap.size 33 #[.int .i64 0, .int .i64 0, .slice none 0 0] := by rw [hW1]; exact Row.fresh _ _ _
  have hY1 : LiesY W1 0 W1.heap.size A bs := (hB.below hb1).keep (Nat.le_refl _) hb1.size fun _ _ _ => rfl
  have HC := Lib.hid (case_any A bc bs W1 hY1 hl hc)
  have HY1 := Lib.hid hY1
  have HX1 := Lib.hid hx1
  have HB1 := Lib.hid hb1
  clear hb1 hx1 hB hY1
  go_enter Try.func26, Try.ntmps26
  go_upto_region 1 with fail
  rw [← hW1]
  clear hW1
  go_wp2_with fail
  refine HC.out.mono ?_
  rintro e w3 ⟨o8, n8, k8, A8, c8, v8, zs8, rfl, ⟨b8, hi8, ht8, hs8⟩, -, -, -, hb3⟩
  obtain ⟨_, _, hX, hk1, hk2⟩ := ht8.slice
  injection hX with hX1 hX2 hX3
  subst hX3
  clear hX1
  obtain ⟨W, hW⟩ : ∃ W, W = w3.alloc (Obj.cells #[.int .i64 o8, .int .i64 n8, .slice A8 k8.len c8] 33) := ⟨_, rfl⟩
  have hbW : Below w3.heap.size w3 W := by rw [hW]; exact (Below.refl _ _).alloc (Nat.le_refl _) _
  have hx : Row W w3.heap.size 33 #[.int .i64 o8, .int .i64 n8, .slice A8 k8.len c8] := by rw [hW]; exact Row.fresh _ _ _
  have hbw : Below W1.heap.size W1 W := hb3.trans (hbW.mono hb3.size)
  have HCO := Lib.hid (open_any A bc bs W ((HY1.out.below hbw).keep (Nat.le_refl _) hbw.size fun _ _ _ => rfl) hl hc)
  have HX3 := Lib.hid (HX1.out.below hbw HX1.out.size)
  have HB3 := Lib.hid (HB1.out.trans (hbw.mono HB1.out.size))
  have HT3 := Lib.hid (((ht8.over hbW).lower (base' := w.heap.size + 1) HX1.out.size))
  have HH := Lib.hid ((ht8.held).up hbW)
  have HX := Lib.hid hx
  have HI := Lib.hid hi8
  have HS := Lib.hid hs8
  have HZW := Lib.hid (Nat.le_trans HX1.out.size hb3.size)
  clear hbw hb3 hbW hx ht8 hi8 hs8 HX1 HB1 HC HY1
  go_upto_region 2 with fail
  rw [← hW]
  clear hW
  go_wp2_with fail
  refine HCO.out.mono ?_
  rintro e w4 ⟨bs2, hl2, rfl, hY4, hr4, hb4, hz4⟩
  have HX4 := Lib.hid (HX.out.below hb4 HX.out.size)
  have HP := Lib.hid (specPaths_any o8 n8 k8 A8 c8 w4 (HH.out.up hb4).1 (Nat.le_trans hk1 hk2))
  have hx := HX4.out
  have q0 := hx.cell (i := 0) rfl
  have q1 := hx.cell (i := 1) rfl
  have q2 := hx.cell (i := 2) rfl
  have HR4 := Lib.hid hr4
  have HY4 := Lib.hid hY4
  have HB4 := Lib.hid hb4
  clear hx hr4 hY4 hb4 HCO
  go_wp2_with fail
  refine HP.out.mono ?_
  rintro e w5 ⟨Al, cl, bl, rfl, hol, hb5⟩
  have HZ5 := Lib.hid (Nat.lt_of_lt_of_le hz4 hb5.size)
  have HR5 := Lib.hid (Row.below HR4.out hb5 hz4)
  have HY5 := Lib.hid (HY4.out.below (hb5.mono HB4.out.size))
  have HB5 := Lib.hid (HB4.out.trans (hb5.mono HB4.out.size))
  have HOL := Lib.hid (hol.lower (base' := W.heap.size + 1) hz4)
  have HOB := Lib.hid (show ∀ b, b ∈ bl → W.heap.size < b from fun b hb => Nat.lt_of_lt_of_le hz4 (hol.lt b hb).1)
  have hzl : (pathsB ⟨o8, n8, k8⟩).length ≤ 81 := pathsB_len _
  have HPB := Lib.hid (show ∀ zs, zs ∈ pathsB ⟨o8, n8, k8⟩ → zs.length ≤ 80 from fun zs hz => pathsB_short hz)
  clear hol hb5 q0 q1 q2 HP HR4 HY4 HB4 HX4
  generalize pathsB ⟨o8, n8, k8⟩ = zss at hzl HOL HPB ⊢
  -- ENDS
  by_cases hz0 : zss.length = 0
  · have b1 : ((zss.length : Int) == 0) = true := by rw [hz0]; rfl
    clear hz0
    go_wp2_with fail
    have HSC := Lib.hid (show ∀ w' : World, Below W.heap.size W w' → w'.cell? ⟨w3.heap.size, 0, none⟩ = some (Value.int .i64 o8) ∧ w'.cell? ⟨w3.heap.size, 1, none⟩ = some (Value.int .i64 n8) ∧ w'.cell? ⟨w3.heap.size, 2, none⟩ = some (Value.slice A8 k8.len c8) from fun w' hb' => ⟨(HX.out.below hb' HX.out.size).cell (i := 0) rfl, (HX.out.below hb' HX.out.size).cell (i := 1) rfl, (HX.out.below hb' HX.out.size).cell (i := 2) rfl⟩)
    have ba : Below W.heap.size W (w5.alloc (Obj.cells #[.int .i64 0, .int .i64 1, .int .i64 (-1), .int .i64 3] 3)).drew := (HB5.out.alloc HB5.out.size _).drew
    have bw : Below w5.heap.size w5 (w5.alloc (Obj.cells #[.int .i64 0, .int .i64 1, .int .i64 (-1), .int .i64 3] 3)).drew := ((Below.refl _ _).alloc (Nat.le_refl _) _).drew
    have HN := Lib.hid (num_v W.heap.size W.heap.size A bc bs2 0 (some ⟨w5.heap.size, 0, none⟩) 4 [0, 1, -1, 3] _ (Row.below HR5.out bw HZ5.out) (HY5.out.below (bw.mono (Nat.le_of_lt HZ5.out))) (Nat.le_refl _) hl2 (by decide) ((lies_new w5 (W.heap.size + 1) [0, 1, -1, 3] (by intro x hx; simp at hx; unfold I64; omega) HZ5.out).keep (Nat.le_refl _) (Nat.le_refl _) fun _ _ _ => rfl) (by decide) (by decide))
    have sa := HSC.out _ ba
    have s0 := HSC.out _ HB5.out.drew
    have BA := Lib.hid ba
    clear ba bw
    go_region_held3 (fun w' => w'.cell? ⟨w3.heap.size, 0, none⟩ = some (Value.int .i64 o8) ∧ w'.cell? ⟨w3.heap.size, 1, none⟩ = some (Value.int .i64 n8) ∧ w'.cell? ⟨w3.heap.size, 2, none⟩ = some (Value.slice A8 k8.len c8))
      (first | with_reducible exact s0 | with_reducible exact sa | with_reducible exact s7 | with_reducible exact s7a | with_reducible exact s7s | with_reducible exact s7b | with_reducible exact s7c | fail)
      (first
        | (go_at_call 42
           refine HN.out.mono ?_
           rintro e w7 ⟨y, -, hyi, rfl, -, hon7⟩
           have hb7 : Below W.heap.size W w7 := BA.out.trans ((hon7.mono BA.out.size).below (Nat.le_refl _))
           have r7 := HX3.out.below hb7 HX3.out.size
           have f0 := r7.free 0
           have f1 := r7.free 1
           have f2 := r7.free 2
           have d0 := r7.cell (i := 0) rfl
           have d1 := r7.cell (i := 1) rfl
           have d2 := r7.cell (i := 2) rfl
           have s7 := HSC.out _ hb7
           have hb7a := hb7.alloc hb7.size (Obj.cells #[Value.int .i64 y] 3)
           have s7a := HSC.out _ hb7a
           have r7a := HX3.out.below hb7a HX3.out.size
           have g0 := r7a.free 0
           have g1 := r7a.free 1
           have g2 := r7a.free 2
           have e0 := r7a.cell (i := 0) rfl
           have e1 := r7a.cell (i := 1) rfl
           have e2 := r7a.cell (i := 2) rfl
           have hlt := HX3.out.size
           have hne : w3.heap.size ≠ w.heap.size := by have := HZW.out; omega
           have s7b := cells3_set3 s7a hne (.int .i64 o8) (.int .i64 n8) (.slice A8 k8.len c8)
           have s7s := cells3_set3 s7 hne (.int .i64 o8) (.int .i64 n8) (.slice A8 k8.len c8)
           have s7c := cells3_alloc s7s (by simp only [World.size_setCell]; exact Nat.lt_of_lt_of_le HX.out.size hb7.size) (Obj.cells #[Value.int .i64 y] 3)
           have hz9 : (((w7.setCell ⟨w.heap.size, 0, none⟩ (.int .i64 o8)).setCell ⟨w.heap.size, 1, none⟩ (.int .i64 n8)).setCell ⟨w.heap.size, 2, none⟩ (.slice A8 k8.len c8)).heap.size = w7.heap.size := by simp only [World.size_setCell]
           have O1 := Lib.hid (show Only w.heap.size W.heap.size W ((((w7.alloc (Obj.cells #[Value.int .i64 y] 3)).setCell ⟨w.heap.size, 0, none⟩ (.int .i64 o8)).setCell ⟨w.heap.size, 1, none⟩ (.int .i64 n8)).setCell ⟨w.heap.size, 2, none⟩ (.slice A8 k8.len c8)) from (((Only.of_below hb7a).set (p := ⟨w.heap.size, 0, none⟩) (.inl rfl) (.int .i64 o8)).set (p := ⟨w.heap.size, 1, none⟩) (.inl rfl) (.int .i64 n8)).set (p := ⟨w.heap.size, 2, none⟩) (.inl rfl) (.slice A8 k8.len c8))
           have O2 := Lib.hid (show Only w.heap.size W.heap.size W ((((w7.setCell ⟨w.heap.size, 0, none⟩ (.int .i64 o8)).setCell ⟨w.heap.size, 1, none⟩ (.int .i64 n8)).setCell ⟨w.heap.size, 2, none⟩ (.slice A8 k8.len c8)).alloc (Obj.cells #[Value.int .i64 y] 3)) from ((((Only.of_below hb7).set (p := ⟨w.heap.size, 0, none⟩) (.inl rfl) (.int .i64 o8)).set (p := ⟨w.heap.size, 1, none⟩) (.inl rfl) (.int .i64 n8)).set (p := ⟨w.heap.size, 2, none⟩) (.inl rfl) (.slice A8 k8.len c8)).alloc (by rw [hz9]; exact hb7.size) (Obj.cells #[Value.int .i64 y] 3))
           have L1 := Lib.hid (show LiesI ((((w7.alloc (Obj.cells #[Value.int .i64 y] 3)).setCell ⟨w.heap.size, 0, none⟩ (.int .i64 o8)).setCell ⟨w.heap.size, 1, none⟩ (.int .i64 n8)).setCell ⟨w.heap.size, 2, none⟩ (.slice A8 k8.len c8)) w.heap.size ((((w7.alloc (Obj.cells #[Value.int .i64 y] 3)).setCell ⟨w.heap.size, 0, none⟩ (.int .i64 o8)).setCell ⟨w.heap.size, 1, none⟩ (.int .i64 n8)).setCell ⟨w.heap.size, 2, none⟩ (.slice A8 k8.len c8)).heap.size (some ⟨w7.heap.size, 0, none⟩) [y] from (lies_new w7 W.heap.size [y] (by intro x hx; simp at hx; rw [hx]; exact hyi) hb7.size).keep (Nat.le_of_lt HX3.out.size) (by simp only [World.size_setCell]; exact Nat.le_refl _) fun p h1 _ => World.cell?_of_block (by rw [Below.heap_setCell _ _ _ _ (show p.block ≠ w.heap.size by omega), Below.heap_setCell _ _ _ _ (show p.block ≠ w.heap.size by omega), Below.heap_setCell _ _ _ _ (show p.block ≠ w.heap.size by omega)]; rfl))
           have l2 := lies_new (((w7.setCell ⟨w.heap.size, 0, none⟩ (.int .i64 o8)).setCell ⟨w.heap.size, 1, none⟩ (.int .i64 n8)).setCell ⟨w.heap.size, 2, none⟩ (.slice A8 k8.len c8)) w.heap.size [y] (by intro x hx; simp at hx; rw [hx]; exact hyi) (by rw [hz9]; have h1 := HX3.out.size; have h2 := hb7.size; omega)
           rw [hz9] at l2
           have L2 := Lib.hid (show LiesI ((((w7.setCell ⟨w.heap.size, 0, none⟩ (.int .i64 o8)).setCell ⟨w.heap.size, 1, none⟩ (.int .i64 n8)).setCell ⟨w.heap.size, 2, none⟩ (.slice A8 k8.len c8)).alloc (Obj.cells #[Value.int .i64 y] 3)) w.heap.size ((((w7.setCell ⟨w.heap.size, 0, none⟩ (.int .i64 o8)).setCell ⟨w.heap.size, 1, none⟩ (.int .i64 n8)).setCell ⟨w.heap.size, 2, none⟩ (.slice A8 k8.len c8)).alloc (Obj.cells #[Value.int .i64 y] 3)).heap.size (some ⟨w7.heap.size, 0, none⟩) [y] from l2)
           have R1 := Lib.hid (((r7a.put 0 (.int .i64 o8)).put 1 (.int .i64 n8)).put 2 (.slice A8 k8.len c8))
           have r8 := ((r7.put 0 (.int .i64 o8)).put 1 (.int .i64 n8)).put 2 (.slice A8 k8.len c8)
           have R2 := Lib.hid (r8.below ((Below.refl _ _).alloc (Nat.le_refl _) (Obj.cells #[Value.int .i64 y] 3)) r8.size)
           clear hyi hon7 r7 r7a r8 hb7 hb7a hne l2 hz9)
        | fail)
    · go_wp2_with fail
      have t0 := R1.out.cell (i := 0) rfl
      have t1 := R1.out.cell (i := 1) rfl
      have t2 := R1.out.cell (i := 2) rfl
      refine bodyPost_ret (v := .tuple #[.agg #[.int .i64 o8, .int .i64 n8, .slice A8 k8.len c8], .slice (some ⟨w7.heap.size, 0, none⟩) 1 1]) ?_ rfl (drawn_end (zs := [y]) HB3.out O1.out HT3.out HI.out HS.out L1.out (Nat.le_refl _) (by decide) (by show 1 ≤ 1048576; decide))
      simp [results, Try.f26, go_sem, t0, t1, t2]
    · go_wp2_with fail
      have t0 := R2.out.cell (i := 0) rfl
      have t1 := R2.out.cell (i := 1) rfl
      have t2 := R2.out.cell (i := 2) rfl
      refine bodyPost_ret (v := .tuple #[.agg #[.int .i64 o8, .int .i64 n8, .slice A8 k8.len c8], .slice (some ⟨w7.heap.size, 0, none⟩) 1 1]) ?_ rfl (drawn_end (zs := [y]) HB3.out O2.out HT3.out HI.out HS.out L2.out (Nat.le_refl _) (by decide) (by show 1 ≤ 1048576; decide))
      simp [results, Try.f26, go_sem, t0, t1, t2]
  · have b1 : ((zss.length : Int) == 0) = false := beq_eq_false_iff_ne.2 (by omega)
    have HPK := Lib.hid (pick_v W.heap.size W.heap.size A bc bs2 0 8 w5 HR5.out HY5.out (Nat.le_refl _) hl2 (by decide) (by decide) (by decide))
    go_wp2_with fail
    refine HPK.out.mono ?_
    rintro e w6 ⟨rfl, hr6, hon6⟩
    have HR6 := Lib.hid hr6
    have HB6 := Lib.hid (show Below W.heap.size W w6 from HB5.out.trans ((hon6.mono HB5.out.size).below (Nat.le_refl _)))
    have HY6 := Lib.hid (HY5.out.below ((hon6.mono HB5.out.size).below (Nat.le_refl _)))
    have HZ6 := Lib.hid (Nat.lt_of_lt_of_le HZ5.out hon6.size)
    have hon6b := hon6
    clear hr6 hon6 HPK
    by_cases hx : pkL bs2 0 8 = 0
    · have b2 : ((pkL bs2 0 8 : Int) == 0) = true := by rw [hx]; rfl
      clear hx hon6b
      go_wp2_with fail
      have HSC := Lib.hid (show ∀ w' : World, Below W.heap.size W w' → w'.cell? ⟨w3.heap.size, 0, none⟩ = some (Value.int .i64 o8) ∧ w'.cell? ⟨w3.heap.size, 1, none⟩ = some (Value.int .i64 n8) ∧ w'.cell? ⟨w3.heap.size, 2, none⟩ = some (Value.slice A8 k8.len c8) from fun w' hb' => ⟨(HX.out.below hb' HX.out.size).cell (i := 0) rfl, (HX.out.below hb' HX.out.size).cell (i := 1) rfl, (HX.out.below hb' HX.out.size).cell (i := 2) rfl⟩)
      have ba : Below W.heap.size W (w6.alloc (Obj.cells #[.int .i64 0, .int .i64 1, .int .i64 (-1), .int .i64 3] 3)).drew := (HB6.out.alloc HB6.out.size _).drew
      have bw : Below w6.heap.size w6 (w6.alloc (Obj.cells #[.int .i64 0, .int .i64 1, .int .i64 (-1), .int .i64 3] 3)).drew := ((Below.refl _ _).alloc (Nat.le_refl _) _).drew
      have HN := Lib.hid (num_v W.heap.size W.heap.size A bc bs2 1 (some ⟨w6.heap.size, 0, none⟩) 4 [0, 1, -1, 3] _ (Row.below HR6.out bw HZ6.out) (HY6.out.below (bw.mono (Nat.le_of_lt HZ6.out))) (Nat.le_refl _) hl2 (by decide) ((lies_new w6 (W.heap.size + 1) [0, 1, -1, 3] (by intro x hx; simp at hx; unfold I64; omega) HZ6.out).keep (Nat.le_refl _) (Nat.le_refl _) fun _ _ _ => rfl) (by decide) (by decide))
      have sa := HSC.out _ ba
      have s0 := HSC.out _ HB6.out.drew
      have BA := Lib.hid ba
      clear ba bw
      go_region_held3 (fun w' => w'.cell? ⟨w3.heap.size, 0, none⟩ = some (Value.int .i64 o8) ∧ w'.cell? ⟨w3.heap.size, 1, none⟩ = some (Value.int .i64 n8) ∧ w'.cell? ⟨w3.heap.size, 2, none⟩ = some (Value.slice A8 k8.len c8))
        (first | with_reducible exact s0 | with_reducible exact sa | with_reducible exact s7 | with_reducible exact s7a | with_reducible exact s7s | with_reducible exact s7b | with_reducible exact s7c | fail)
        (first
          | (go_at_call 42
             refine HN.out.mono ?_
             rintro e w7 ⟨y, -, hyi, rfl, -, hon7⟩
             have hb7 : Below W.heap.size W w7 := BA.out.trans ((hon7.mono BA.out.size).below (Nat.le_refl _))
             have r7 := HX3.out.below hb7 HX3.out.size
             have f0 := r7.free 0
             have f1 := r7.free 1
             have f2 := r7.free 2
             have d0 := r7.cell (i := 0) rfl
             have d1 := r7.cell (i := 1) rfl
             have d2 := r7.cell (i := 2) rfl
             have s7 := HSC.out _ hb7
             have hb7a := hb7.alloc hb7.size (Obj.cells #[Value.int .i64 y] 3)
             have s7a := HSC.out _ hb7a
             have r7a := HX3.out.below hb7a HX3.out.size
             have g0 := r7a.free 0
             have g1 := r7a.free 1
             have g2 := r7a.free 2
             have e0 := r7a.cell (i := 0) rfl
             have e1 := r7a.cell (i := 1) rfl
             have e2 := r7a.cell (i := 2) rfl
             have hlt := HX3.out.size
             have hne : w3.heap.size ≠ w.heap.size := by have := HZW.out; omega
             have s7b := cells3_set3 s7a hne (.int .i64 o8) (.int .i64 n8) (.slice A8 k8.len c8)
             have s7s := cells3_set3 s7 hne (.int .i64 o8) (.int .i64 n8) (.slice A8 k8.len c8)
             have s7c := cells3_alloc s7s (by simp only [World.size_setCell]; exact Nat.lt_of_lt_of_le HX.out.size hb7.size) (Obj.cells #[Value.int .i64 y] 3)
             have hz9 : (((w7.setCell ⟨w.heap.size, 0, none⟩ (.int .i64 o8)).setCell ⟨w.heap.size, 1, none⟩ (.int .i64 n8)).setCell ⟨w.heap.size, 2, none⟩ (.slice A8 k8.len c8)).heap.size = w7.heap.size := by simp only [World.size_setCell]
             have O1 := Lib.hid (show Only w.heap.size W.heap.size W ((((w7.alloc (Obj.cells #[Value.int .i64 y] 3)).setCell ⟨w.heap.size, 0, none⟩ (.int .i64 o8)).setCell ⟨w.heap.size, 1, none⟩ (.int .i64 n8)).setCell ⟨w.heap.size, 2, none⟩ (.slice A8 k8.len c8)) from (((Only.of_below hb7a).set (p := ⟨w.heap.size, 0, none⟩) (.inl rfl) (.int .i64 o8)).set (p := ⟨w.heap.size, 1, none⟩) (.inl rfl) (.int .i64 n8)).set (p := ⟨w.heap.size, 2, none⟩) (.inl rfl) (.slice A8 k8.len c8))
             have O2 := Lib.hid (show Only w.heap.size W.heap.size W ((((w7.setCell ⟨w.heap.size, 0, none⟩ (.int .i64 o8)).setCell ⟨w.heap.size, 1, none⟩ (.int .i64 n8)).setCell ⟨w.heap.size, 2, none⟩ (.slice A8 k8.len c8)).alloc (Obj.cells #[Value.int .i64 y] 3)) from ((((Only.of_below hb7).set (p := ⟨w.heap.size, 0, none⟩) (.inl rfl) (.int .i64 o8)).set (p := ⟨w.heap.size, 1, none⟩) (.inl rfl) (.int .i64 n8)).set (p := ⟨w.heap.size, 2, none⟩) (.inl rfl) (.slice A8 k8.len c8)).alloc (by rw [hz9]; exact hb7.size) (Obj.cells #[Value.int .i64 y] 3))
             have L1 := Lib.hid (show LiesI ((((w7.alloc (Obj.cells #[Value.int .i64 y] 3)).setCell ⟨w.heap.size, 0, none⟩ (.int .i64 o8)).setCell ⟨w.heap.size, 1, none⟩ (.int .i64 n8)).setCell ⟨w.heap.size, 2, none⟩ (.slice A8 k8.len c8)) w.heap.size ((((w7.alloc (Obj.cells #[Value.int .i64 y] 3)).setCell ⟨w.heap.size, 0, none⟩ (.int .i64 o8)).setCell ⟨w.heap.size, 1, none⟩ (.int .i64 n8)).setCell ⟨w.heap.size, 2, none⟩ (.slice A8 k8.len c8)).heap.size (some ⟨w7.heap.size, 0, none⟩) [y] from (lies_new w7 W.heap.size [y] (by intro x hx; simp at hx; rw [hx]; exact hyi) hb7.size).keep (Nat.le_of_lt HX3.out.size) (by simp only [World.size_setCell]; exact Nat.le_refl _) fun p h1 _ => World.cell?_of_block (by rw [Below.heap_setCell _ _ _ _ (show p.block ≠ w.heap.size by omega), Below.heap_setCell _ _ _ _ (show p.block ≠ w.heap.size by omega), Below.heap_setCell _ _ _ _ (show p.block ≠ w.heap.size by omega)]; rfl))
             have l2 := lies_new (((w7.setCell ⟨w.heap.size, 0, none⟩ (.int .i64 o8)).setCell ⟨w.heap.size, 1, none⟩ (.int .i64 n8)).setCell ⟨w.heap.size, 2, none⟩ (.slice A8 k8.len c8)) w.heap.size [y] (by intro x hx; simp at hx; rw [hx]; exact hyi) (by rw [hz9]; have h1 := HX3.out.size; have h2 := hb7.size; omega)
             rw [hz9] at l2
             have L2 := Lib.hid (show LiesI ((((w7.setCell ⟨w.heap.size, 0, none⟩ (.int .i64 o8)).setCell ⟨w.heap.size, 1, none⟩ (.int .i64 n8)).setCell ⟨w.heap.size, 2, none⟩ (.slice A8 k8.len c8)).alloc (Obj.cells #[Value.int .i64 y] 3)) w.heap.size ((((w7.setCell ⟨w.heap.size, 0, none⟩ (.int .i64 o8)).setCell ⟨w.heap.size, 1, none⟩ (.int .i64 n8)).setCell ⟨w.heap.size, 2, none⟩ (.slice A8 k8.len c8)).alloc (Obj.cells #[Value.int .i64 y] 3)).heap.size (some ⟨w7.heap.size, 0, none⟩) [y] from l2)
             have R1 := Lib.hid (((r7a.put 0 (.int .i64 o8)).put 1 (.int .i64 n8)).put 2 (.slice A8 k8.len c8))
             have r8 := ((r7.put 0 (.int .i64 o8)).put 1 (.int .i64 n8)).put 2 (.slice A8 k8.len c8)
             have R2 := Lib.hid (r8.below ((Below.refl _ _).alloc (Nat.le_refl _) (Obj.cells #[Value.int .i64 y] 3)) r8.size)
             clear hyi hon7 r7 r7a r8 hb7 hb7a hne l2 hz9)
          | fail)
      · go_wp2_with fail
        have t0 := R1.out.cell (i := 0) rfl
        have t1 := R1.out.cell (i := 1) rfl
        have t2 := R1.out.cell (i := 2) rfl
        refine bodyPost_ret (v := .tuple #[.agg #[.int .i64 o8, .int .i64 n8, .slice A8 k8.len c8], .slice (some ⟨w7.heap.size, 0, none⟩) 1 1]) ?_ rfl (drawn_end (zs := [y]) HB3.out O1.out HT3.out HI.out HS.out L1.out (Nat.le_refl _) (by decide) (by show 1 ≤ 1048576; decide))
        simp [results, Try.f26, go_sem, t0, t1, t2]
      · go_wp2_with fail
        have t0 := R2.out.cell (i := 0) rfl
        have t1 := R2.out.cell (i := 1) rfl
        have t2 := R2.out.cell (i := 2) rfl
        refine bodyPost_ret (v := .tuple #[.agg #[.int .i64 o8, .int .i64 n8, .slice A8 k8.len c8], .slice (some ⟨w7.heap.size, 0, none⟩) 1 1]) ?_ rfl (drawn_end (zs := [y]) HB3.out O2.out HT3.out HI.out HS.out L2.out (Nat.le_refl _) (by decide) (by show 1 ≤ 1048576; decide))
        simp [results, Try.f26, go_sem, t0, t1, t2]
    · have b2 : ((pkL bs2 0 8 : Int) == 0) = false := beq_eq_false_iff_ne.2 (by omega)
      have HOL6 := Lib.hid (HOL.out.keep fun b hb => hon6b.block b (HOL.out.lt b hb).2 (by have := HOB.out b hb; omega))
      go_wp2_with fail
      have HPL := Lib.hid (pick_v W.heap.size W.heap.size A bc bs2 1 zss.length _ HR6.out.drew (HY6.out.keep (Nat.le_refl _) (Nat.le_refl _) fun _ _ _ => rfl) (Nat.le_refl _) hl2 (by decide) (by omega) (by omega))
      have HSC := Lib.hid (show ∀ w' : World, Below W.heap.size W w' → w'.cell? ⟨w3.heap.size, 0, none⟩ = some (Value.int .i64 o8) ∧ w'.cell? ⟨w3.heap.size, 1, none⟩ = some (Value.int .i64 n8) ∧ w'.cell? ⟨w3.heap.size, 2, none⟩ = some (Value.slice A8 k8.len c8) from fun w' hb' => ⟨(HX.out.below hb' HX.out.size).cell (i := 0) rfl, (HX.out.below hb' HX.out.size).cell (i := 1) rfl, (HX.out.below hb' HX.out.size).cell (i := 2) rfl⟩)
      have s0 := HSC.out _ HB6.out.drew
      have hlt := pkL_lt bs2 1 (n := zss.length) (by omega)
      have e1 := List.getElem?_eq_getElem hlt
      generalize zss[pkL bs2 1 zss.length] = zs at e1
      obtain ⟨g, A', c', hA, hge, hg, hcell, hli, hm1, hm2⟩ := HOL6.out.one e1
      subst hA
      have hzs := HPB.out zs (List.mem_of_getElem? e1)
      generalize pkL bs2 1 zss.length = x at hlt e1 hcell HPL
      rw [Nat.zero_add] at hcell
      have HCE := Lib.hid hcell
      have HLI := Lib.hid hli
      have HGL := Lib.hid hg
      clear e1 hcell hli hg hon6b
      have q0 : w6.drew.cell? ⟨g, x, none⟩ = some (.slice A' zs.length c') := HCE.out
      have s0q := And.intro s0.1 (And.intro s0.2.1 (And.intro s0.2.2 q0))
      clear s0 q0
      go_region_held3 (fun w' => w'.cell? ⟨w3.heap.size, 0, none⟩ = some (Value.int .i64 o8) ∧ w'.cell? ⟨w3.heap.size, 1, none⟩ = some (Value.int .i64 n8) ∧ w'.cell? ⟨w3.heap.size, 2, none⟩ = some (Value.slice A8 k8.len c8) ∧ w'.cell? ⟨g, x, none⟩ = some (.slice A' zs.length c'))
        (first | with_reducible exact s0q | with_reducible exact s7q | with_reducible exact s7s | fail)
        (first
          | (go_at_call 41
             refine HPL.out.mono ?_
             rintro e w7 ⟨rfl, -, hon7⟩
             have hb7 : Below W.heap.size W w7 := HB6.out.drew.trans ((hon7.mono HB6.out.size).below (Nat.le_refl _))
             have r7 := HX3.out.below hb7 HX3.out.size
             have f0 := r7.free 0
             have f1 := r7.free 1
             have f2 := r7.free 2
             have d0 := r7.cell (i := 0) rfl
             have d1 := r7.cell (i := 1) rfl
             have d2 := r7.cell (i := 2) rfl
             have s7 := HSC.out _ hb7
             have hne : w3.heap.size ≠ w.heap.size := by have := HZW.out; omega
             have s7r := cells3_set3 s7 hne (.int .i64 o8) (.int .i64 n8) (.slice A8 k8.len c8)
             have hg7 : g ≠ W.heap.size := by omega
             have hgw : g ≠ w.heap.size := by have := HX3.out.size; omega
             have qc : w7.cell? ⟨g, x, none⟩ = some (.slice A' zs.length c') := (hon7.cell (p := ⟨g, x, none⟩) HGL.out hg7).trans HCE.out
             have qcs : (((w7.setCell ⟨w.heap.size, 0, none⟩ (.int .i64 o8)).setCell ⟨w.heap.size, 1, none⟩ (.int .i64 n8)).setCell ⟨w.heap.size, 2, none⟩ (.slice A8 k8.len c8)).cell? ⟨g, x, none⟩ = some (.slice A' zs.length c') := cell_set3 qc hgw hgw hgw _ _ _
             have s7q := And.intro s7.1 (And.intro s7.2.1 (And.intro s7.2.2 qc))
             have s7s := And.intro s7r.1 (And.intro s7r.2.1 (And.intro s7r.2.2 qcs))
             have hlt8 := HX3.out.size
             have O1 := Lib.hid (show Only w.heap.size W.heap.size W (((w7.setCell ⟨w.heap.size, 0, none⟩ (.int .i64 o8)).setCell ⟨w.heap.size, 1, none⟩ (.int .i64 n8)).setCell ⟨w.heap.size, 2, none⟩ (.slice A8 k8.len c8)) from (((Only.of_below hb7).set (p := ⟨w.heap.size, 0, none⟩) (.inl rfl) (.int .i64 o8)).set (p := ⟨w.heap.size, 1, none⟩) (.inl rfl) (.int .i64 n8)).set (p := ⟨w.heap.size, 2, none⟩) (.inl rfl) (.slice A8 k8.len c8))
             have L1 := Lib.hid (show LiesI (((w7.setCell ⟨w.heap.size, 0, none⟩ (.int .i64 o8)).setCell ⟨w.heap.size, 1, none⟩ (.int .i64 n8)).setCell ⟨w.heap.size, 2, none⟩ (.slice A8 k8.len c8)) w.heap.size (((w7.setCell ⟨w.heap.size, 0, none⟩ (.int .i64 o8)).setCell ⟨w.heap.size, 1, none⟩ (.int .i64 n8)).setCell ⟨w.heap.size, 2, none⟩ (.slice A8 k8.len c8)).heap.size A' zs from HLI.out.keep (by have := HX3.out.size; omega) (by simp only [World.size_setCell]; exact hon7.size) fun p h1 h2 => (World.cell?_of_block (by rw [Below.heap_setCell _ _ _ _ (show p.block ≠ w.heap.size by omega), Below.heap_setCell _ _ _ _ (show p.block ≠ w.heap.size by omega), Below.heap_setCell _ _ _ _ (show p.block ≠ w.heap.size by omega)])).trans (hon7.cell (p := p) h2 (by omega)))
             have R1 := Lib.hid (((r7.put 0 (.int .i64 o8)).put 1 (.int .i64 n8)).put 2 (.slice A8 k8.len c8))
             clear hon7 r7 hb7 hne hg7 hgw s7 s7r qc qcs)
          | fail)
      all_goals
        go_wp2_with fail
        have t0 := R1.out.cell (i := 0) rfl
        have t1 := R1.out.cell (i := 1) rfl
        have t2 := R1.out.cell (i := 2) rfl
        refine bodyPost_ret (v := .tuple #[.agg #[.int .i64 o8, .int .i64 n8, .slice A8 k8.len c8], .slice A' zs.length c']) ?_ rfl (drawn_end HB3.out O1.out HT3.out HI.out HS.out L1.out hm1 hm2 (by omega))
        simp [results, Try.f26, go_sem, t0, t1, t2]

end Go.Proofs.Ytiefobkddckkbaa
