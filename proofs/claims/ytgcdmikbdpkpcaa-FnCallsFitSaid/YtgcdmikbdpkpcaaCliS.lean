/-
  spec.l2Arity: the arities of a library's functions by name.
  spec.l2Some: a client of a library is drawn.
  spec.l2Case: a library and a client of it are drawn.
  The draws of a library and a client: DrawCallsFit, DrawClientValid.
  DrawClientValid: what DrawCallsFit draws.
-/
import Derived.Test.YtgcdmikbdpkpcaaSomeS
import Derived.Test.YtgcdmikbdpkpcaaLibVD
import Derived.Test.YtgcdmikbdpkpcaaMutLib
import Derived.Test.YtgcdmikbdpkpcaaCaseS
namespace Go.Proofs.Ytgcdmikbdpkpcaa
open Go.RowKit Go.Shelf
set_option maxRecDepth 100000

def Ar2Post (w : World) (e : Ending) (w' : World) : Prop :=
  ∃ (v : Value) (ar : List Int), e = .returned v ∧ w'.ownsRow w.heap.size 3 1 v ar.length (ar.map (Value.int .i64)) ∧ ar.length = 8 ∧ (∀ x ∈ ar, I64 x) ∧ (∀ x ∈ ar, x ≤ 3) ∧ Below w.heap.size w w'

theorem all_snoc {P : Int → Prop} {zs : List Int} {y : Int} (h : ∀ x ∈ zs, P x) (hy : P y) : ∀ x ∈ zs ++ [y], P x := fun x hx => by
  rcases List.mem_append.1 hx with h1 | h1
  · exact h x h1
  · rw [List.mem_singleton.1 h1]; exact hy

set_option maxHeartbeats 2000000 in
theorem l2Arity_any (ds : List De) (X : Option Addr) (c : Nat) (w : World) (hl : LiesD w 0 w.heap.size X ds) (hn : ds.length ≤ 1048576) (h3 : ∀ d ∈ ds, d.ar ≤ 3) :
    Calls Try.prog 37 #[.slice X ds.length c] w (Ar2Post w) := by
  obtain ⟨W1, hW1⟩ : ∃ W1, W1 = w.alloc (Obj.cells #[] 3) := ⟨_, rfl⟩
  have hb1 : Below w.heap.size w W1 := by rw [hW1]; exact (Below.refl _ _).alloc (Nat.le_refl _) _
  have hx1 : Row W1 w.heap.size 3 #[] := by rw [hW1]; exact Row.fresh _ _ _
  have hO1 : W1.ownsRow w.heap.size 3 1 (.slice (some ⟨w.heap.size, 0, none⟩) 0 0) 0 [] := ⟨rfl, .inr ⟨w.heap.size, 0, #[], rfl, Nat.le_refl _, hx1, Nat.le_refl _, by decide, rfl, rfl⟩⟩
  have HL := Lib.hid hl
  clear hx1 hl
  go_enter Try.func37, Try.ntmps37
  go_upto_region 2 with fail
  rw [← hW1]
  clear hW1
  go_wp2_with fail
  go_loopw [3, 4] (fun v i wr => ∃ (j : Nat) (zs : List Int), i = .int .i64 (j : Int) ∧ zs.length = j ∧ j ≤ 8 ∧ (∀ x ∈ zs, I64 x) ∧ (∀ x ∈ zs, x ≤ 3) ∧ wr.ownsRow w.heap.size 3 1 v zs.length (zs.map (Value.int .i64)) ∧ Below w.heap.size w wr)
    (fun _ i _ => 8 - (intOf i).toNat)
  case atStart => exact ⟨0, [], rfl, rfl, by omega, fun x h => by simp at h, fun x h => by simp at h, hO1, hb1⟩
  case round =>
    clear hb1 hO1
    obtain ⟨j, zs, rfl, hzl, hj, hzi, hz3, hown, hb⟩ := hrel
    by_cases hlt : j < 8
    · have HP := Lib.hid (place_any ds X c wr (j : Int) (HL.out.up hb) hn)
      have HO := Lib.hid hown
      have HB := Lib.hid hb
      obtain ⟨iT, hiT, hiz0, hiz1, hiz2⟩ := info_parts (show (Try.prog.info? 3).map (fun i => (i.zero, i.size, i.bytes)) = some (some (.int .i64 0), 1, 8) by kernel_rfl)
      have HIT := Lib.hid hiT
      have HIZ0 := Lib.hid hiz0
      have HIZ1 := Lib.hid hiz1
      have HIZ2 := Lib.hid hiz2
      have HC3 := Lib.hid (show zs.length + 1 ≤ maxLen by unfold maxLen; omega)
      have HC4 := Lib.hid (show (zs.length + 1) * 8 ≤ 140737488355328 by omega)
      clear hiT hiz0 hiz1 hiz2 hown hb
      go_wp2_with fail
      refine HP.out.mono ?_
      rintro e w5 ⟨rfl, hb5⟩
      have hB5 := HB.out.trans (hb5.mono HB.out.size)
      have hO5 := own_at (w' := w5) HO.out fun g hg => hb5.block g (HO.out.lt g hg).2
      have HO5 := Lib.hid hO5
      have HB5 := Lib.hid hB5
      clear hb5 hB5 hO5 HP HO HB
      by_cases hp : plc (j : Int) ds < ds.length
      · obtain ⟨p, hpp⟩ : ∃ p, p = plc (j : Int) ds := ⟨_, rfl⟩
        have hv : plcI (j : Int) ds = (p : Int) := by unfold plcI; rw [if_pos hp, hpp]
        rw [hv]
        rw [← hpp] at hp
        obtain ⟨d, hd⟩ : ∃ d, ds[p]? = some d := ⟨_, List.getElem?_eq_getElem hp⟩
        obtain ⟨b, o, A', c', rfl, hbb, hbw, hf, g0, g1, _⟩ := (HL.out.up HB5.out) p d hd
        have hpi : (p : Int) < (ds.length : Int) := by omega
        have HF := Lib.hid (all_snoc hzi hf.2.1)
        have HG := Lib.hid (all_snoc hz3 (h3 d (List.mem_of_getElem? hd)))
        have C1 := Lib.hid (fresh_cells w5 3 #[Value.int .i64 d.ar])
        have HC2 := Lib.hid (show ∀ u ∈ [Value.int .i64 d.ar], u.oneCell' = true by intro u hu; rw [List.mem_singleton.1 hu]; rfl)
        have HC5 := Lib.hid (show w.heap.size ≤ (w5.alloc (.cells #[Value.int .i64 d.ar] 3)).heap.size by have := HB5.out.size; rw [World.size_alloc]; omega)
        have HOA := Lib.hid (HO5.out.alloc (.cells #[Value.int .i64 d.ar] 3))
        clear hpp hv hd hf g0
        go_wp2_with (at_builtin; refine wpList_append_own_at _ rfl _ _ 40 rfl w.heap.size 3 iT _ 1 8 Try.underlying40 HIT.out HIZ0.out HIZ1.out HIZ2.out rfl (by decide) _ _ _ rfl HOA.out ⟨w5.heap.size, 0, none⟩ 1 1 [Value.int .i64 d.ar] rfl rfl C1.out HC2.out HC3.out HC4.out HC5.out ?_; intro v' w' hown6 hgrow6 _ hblk)
        have HB6 := Lib.hid (show Below w.heap.size w w' from Below.grown (HB5.out.alloc HB5.out.size (.cells #[Value.int .i64 d.ar] 3)) hgrow6 HC5.out (fun g' hg' => own_at_least HO5.out hg'))
        have HO6 := Lib.hid hown6
        clear hown6 hgrow6 hblk g1
        go_wp2_with fail
        go_roundw
        case rel => exact ⟨j + 1, zs ++ [d.ar], by go_num, by simp; omega, by omega, HF.out, HG.out, by rw [List.length_append, List.map_append]; exact HO6.out, HB6.out⟩
        case measure => simp [intOf]; omega
      · have hv : plcI (j : Int) ds = -1 := by unfold plcI; rw [if_neg hp]
        rw [hv]
        have HF := Lib.hid (all_snoc (y := -1) hzi (by unfold I64; omega))
        have HG := Lib.hid (all_snoc (y := -1) hz3 (by omega))
        have C1 := Lib.hid (fresh_cells w5 3 #[Value.int .i64 (-1)])
        have HC2 := Lib.hid (show ∀ u ∈ [Value.int .i64 (-1)], u.oneCell' = true by intro u hu; rw [List.mem_singleton.1 hu]; rfl)
        have HC5 := Lib.hid (show w.heap.size ≤ (w5.alloc (.cells #[Value.int .i64 (-1)] 3)).heap.size by have := HB5.out.size; rw [World.size_alloc]; omega)
        have HOA := Lib.hid (HO5.out.alloc (.cells #[Value.int .i64 (-1)] 3))
        clear hv hp
        go_wp2_with (at_builtin; refine wpList_append_own_at _ rfl _ _ 40 rfl w.heap.size 3 iT _ 1 8 Try.underlying40 HIT.out HIZ0.out HIZ1.out HIZ2.out rfl (by decide) _ _ _ rfl HOA.out ⟨w5.heap.size, 0, none⟩ 1 1 [Value.int .i64 (-1)] rfl rfl C1.out HC2.out HC3.out HC4.out HC5.out ?_; intro v' w' hown6 hgrow6 _ hblk)
        have HB6 := Lib.hid (show Below w.heap.size w w' from Below.grown (HB5.out.alloc HB5.out.size (.cells #[Value.int .i64 (-1)] 3)) hgrow6 HC5.out (fun g' hg' => own_at_least HO5.out hg'))
        have HO6 := Lib.hid hown6
        clear hown6 hgrow6 hblk
        go_wp2_with fail
        go_roundw
        case rel => exact ⟨j + 1, zs ++ [-1], by go_num, by simp; omega, by omega, HF.out, HG.out, by rw [List.length_append, List.map_append]; exact HO6.out, HB6.out⟩
        case measure => simp [intOf]; omega
    · have e9 : j = 8 := by omega
      subst e9
      have HO := Lib.hid hown
      clear hown
      go_wp2_with fail
      go_ret
      exact ⟨_, zs, rfl, HO.out, hzl, hzi, hz3, hb⟩
end Go.Proofs.Ytgcdmikbdpkpcaa

namespace Go.Proofs.Ytgcdmikbdpkpcaa
open Go.RowKit Go.Shelf
set_option maxRecDepth 100000

set_option maxHeartbeats 2000000 in
theorem l2Some_any (d : Nat) (hd : d ≤ 20) (g base : Nat) (A : Option Addr) (bc : Nat) (bs : List Nat) (Q p : Nat) (b : Int) (ds : List De) (X : Option Addr) (c : Nat) (w : World) (hr : Rd w g A bc bs p) (hY : LiesY w 0 base A bs) (hbg : base ≤ g) (hbl : bs.length ≤ 2000) (hQ : Lim bs Q) (hok : Ok bs Q p b) (hb9 : b + costD d ≤ 4000)
    (hl : LiesD w 0 w.heap.size X ds) (hn : ds.length ≤ 1048576) (h3 : ∀ d ∈ ds, d.ar ≤ 3) :
    Calls Try.prog 22 #[.pointer (some ⟨g, 0, none⟩), .slice X ds.length c, .int .i64 (d : Int)] w (SomePost g A bc bs Q (b + costD d) (nodesD d) w) := by
  have hgz : g < w.heap.size := hr.size
  obtain ⟨W1, hW1⟩ : ∃ W1, W1 = w.alloc (Obj.cells #[.int .i64 0, .int .i64 0, .slice none 0 0] 26) := ⟨_, rfl⟩
  have hb1 : Below w.heap.size w W1 := by rw [hW1]; exact (Below.refl _ _).alloc (Nat.le_refl _) _
  have hx1 : Row W1 w.heap.size 26 #[.int .i64 0, .int .i64 0, .slice none 0 0] := by rw [hW1]; exact Row.fresh _ _ _
  obtain ⟨W2, hW2⟩ : ∃ W2, W2 = W1.alloc (Obj.cells #[] 3) := ⟨_, rfl⟩
  have hb2 : Below W1.heap.size W1 W2 := by rw [hW2]; exact (Below.refl _ _).alloc (Nat.le_refl _) _
  have hbb : Below w.heap.size w W2 := hb1.trans (hb2.mono hb1.size)
  have HA := Lib.hid (l2Arity_any ds X c W2 (hl.up hbb) hn h3)
  have HX := Lib.hid (hx1.below hb2 hx1.size)
  have HR := Lib.hid (Row.below hr hbb hgz)
  have HY := Lib.hid (hY.below (hbb.mono (by omega)))
  have HB := Lib.hid hbb
  have HZ := Lib.hid hb2.size
  have HZ1 := Lib.hid hx1.size
  clear hr hY hx1 hb1 hb2 hbb hl
  go_enter Try.func22, Try.ntmps22
  go_upto_region 1 with fail
  rw [← hW1]
  clear hW1
  go_wp2_with fail
  rw [← hW2]
  clear hW2
  refine HA.out.mono ?_
  rintro e w3 ⟨v3, ar, rfl, hown, har8, hari, har3, hb3⟩
  obtain ⟨RA, Rc, rfl, hRI⟩ := own_ints hown hari
  have hgz3 : g < W2.heap.size := by have := HB.out.size; omega
  have HS := Lib.hid (some_any d hd g base A bc bs Q p b (some ⟨W1.heap.size, 0, none⟩) 0 [] RA Rc ar w3 (Row.below HR.out hb3 hgz3) (HY.out.below (hb3.mono (by omega))) hbg hbl hQ hok hb9 (fun i x hx => by simp at hx) (by simp; omega) (hRI.mono_ (by omega) (Nat.le_refl _)) (by omega) har3)
  have HX3 := Lib.hid (HX.out.below hb3 HX.out.size)
  have HB3 := Lib.hid (HB.out.trans (hb3.mono HB.out.size))
  clear hown hRI hb3 HA HR HY HB HX har8
  go_wp2_with fail
  refine HS.out.mono ?_
  rintro e w4 ⟨o8, n8, k8, A8, c8, bl8, p8, rfl, hi8, ht8, hs8, hr8, hok8, hon8⟩
  have hz3 : w.heap.size < w3.heap.size := HX3.out.size
  have hx4 := HX3.out.only hon8 hz3 (by omega)
  have HX4 := Lib.hid hx4
  have HT := Lib.hid ht8
  have HI := Lib.hid hi8
  have HR8 := Lib.hid hr8
  have HOK := Lib.hid hok8
  have HO8 := Lib.hid ((Only.of_below (g := g) HB3.out).trans (hon8.mono HB3.out.size))
  have f0 := hx4.free 0
  have f1 := hx4.free 1
  have f2 := hx4.free 2
  have d0 := hx4.cell (i := 0) rfl
  have d1 := hx4.cell (i := 1) rfl
  have d2 := hx4.cell (i := 2) rfl
  clear hx4 ht8 hi8 hr8 hok8 hon8 HS HX3 HB3
  go_wp2_with fail
  have r7 := ((HX4.out.put 0 (.int .i64 o8)).put 1 (.int .i64 n8)).put 2 (.slice A8 k8.len c8)
  have t0 := r7.cell (i := 0) rfl
  have t1 := r7.cell (i := 1) rfl
  have t2 := r7.cell (i := 2) rfl
  refine bodyPost_ret (v := .agg #[.int .i64 o8, .int .i64 n8, .slice A8 k8.len c8]) ?_ rfl ⟨o8, n8, k8, A8, c8, bl8, p8, rfl, HI.out, (HT.out.keep fun z hz => ?_).lower (Nat.le_of_lt hz3), hs8, ((Row.apart HR8.out (by dsimp only; omega) _).apart (by dsimp only; omega) _).apart (by dsimp only; omega) _, HOK.out, ((HO8.out.set (.inr (Nat.le_refl _)) _).set (.inr (Nat.le_refl _)) _).set (.inr (Nat.le_refl _)) _⟩
  · simp [results, Try.f22, go_sem, t0, t1, t2]
  · have hz1 := (HT.out.lt z hz).1
    have hz2 : z ≠ w.heap.size := by omega
    rw [Below.heap_setCell _ _ _ z hz2, Below.heap_setCell _ _ _ z hz2, Below.heap_setCell _ _ _ z hz2]
end Go.Proofs.Ytgcdmikbdpkpcaa

namespace Go.Proofs.Ytgcdmikbdpkpcaa
open Go.RowKit Go.Shelf
set_option maxRecDepth 100000

/-- A library and an expression were drawn. -/
def Case2Post (w : World) (e : Ending) (w' : World) : Prop :=
  ∃ (ds : List De) (X : Option Addr) (c : Nat) (op n : Int) (k : Fo) (Y : Option Addr) (cy : Nat) (bl : List Nat), e = .returned (.tuple #[.slice X ds.length c, .agg #[.int .i64 op, .int .i64 n, .slice Y k.len cy]]) ∧
    (LiesD w' w.heap.size w'.heap.size X ds ∧ ds.length ≤ c ∧ c ≤ maxLen ∧ ds.length ≤ 100 ∧ sizeD ds ≤ 1048576) ∧ (I64 op ∧ I64 n) ∧ Tree w' w.heap.size (.slice Y k.len cy) k bl ∧ k.size ≤ 1000000 ∧ Below w.heap.size w w'

/-- The end: both stand in memory, the expression is stored into the result's box. -/
theorem case2_end {w V : World} {ds : List De} {X : Option Addr} {c : Nat} {op n : Int} {k : Fo} {Y : Option Addr} {cy : Nat} {bl : List Nat} (hd : LiesD V (w.heap.size + 1) V.heap.size X ds) (h1 : ds.length ≤ c) (h2 : c ≤ maxLen) (h3 : ds.length ≤ 100) (h4 : sizeD ds ≤ 1048576) (hi : I64 op ∧ I64 n)
    (ht : Tree V (w.heap.size + 1) (.slice Y k.len cy) k bl) (hk : k.size ≤ 1000000) (hb : Below w.heap.size w V) (u0 u1 u2 : Value) :
    Case2Post w (.returned (.tuple #[.slice X ds.length c, .agg #[.int .i64 op, .int .i64 n, .slice Y k.len cy]])) (((V.setCell ⟨w.heap.size, 0, none⟩ u0).setCell ⟨w.heap.size, 1, none⟩ u1).setCell ⟨w.heap.size, 2, none⟩ u2) := by
  refine ⟨ds, X, c, op, n, k, Y, cy, bl, rfl, ⟨hd.keep (Nat.le_succ _) (by simp [World.setCell]) fun q h1 h2 => ?_, h1, h2, h3, h4⟩, hi, (ht.keep fun z hz => ?_).lower (Nat.le_succ _), hk, ((hb.setCell (Nat.le_refl _) _).setCell (Nat.le_refl _) _).setCell (Nat.le_refl _) _⟩
  · have hq : q.block ≠ w.heap.size := by omega
    refine World.cell?_of_block ?_
    rw [Below.heap_setCell _ _ _ _ hq, Below.heap_setCell _ _ _ _ hq, Below.heap_setCell _ _ _ _ hq]
  · have hz1 := (ht.lt z hz).1
    have hz2 : z ≠ w.heap.size := by omega
    rw [Below.heap_setCell _ _ _ z hz2, Below.heap_setCell _ _ _ z hz2, Below.heap_setCell _ _ _ z hz2]

set_option maxHeartbeats 4000000 in
theorem l2Case_any (A : Option Addr) (bc : Nat) (bs : List Nat) (w : World) (hB : LiesY w 0 w.heap.size A bs) (hl : bs.length ≤ bc) (hc : bc ≤ maxLen) :
    Calls Try.prog 9 #[.slice A bs.length bc] w (Case2Post w) := by
  obtain ⟨W1, hW1⟩ : ∃ W1, W1 = w.alloc (Obj.cells #[.int .i64 0, .int .i64 0, .slice none 0 0] 26) := ⟨_, rfl⟩
  have hb1 : Below w.heap.size w W1 := by rw [hW1]; exact (Below.refl _ _).alloc (Nat.le_refl _) _
  have hx1 : Row W1 w.heap.size 26 #[.int .i64 0, .int .i64 0, .slice none 0 0] := by rw [hW1]; exact Row.fresh _ _ _
  have HCO := Lib.hid (open_any A bc bs W1 ((hB.below hb1).keep (Nat.le_refl _) hb1.size fun _ _ _ => rfl) hl hc)
  have HX1 := Lib.hid hx1
  have HB1 := Lib.hid hb1
  clear hb1 hx1 hB
  go_enter Try.func9, Try.ntmps9
  go_upto_region 1 with fail
  rw [← hW1]
  clear hW1
  go_wp2_with fail
  refine HCO.out.mono ?_
  rintro e w2 ⟨bs2, hl2, rfl, hY2, hr2, hb2, hz2⟩
  obtain ⟨Q, hQ⟩ := lim_ex bs2 hl2 hY2.bytes
  have hg1 : w.heap.size < W1.heap.size := HX1.out.size
  have HC := Lib.hid (l2Draw_any W1.heap.size W1.heap.size A bc bs2 Q 0 0 w2 hr2 hY2 (Nat.le_refl _) hl2 hQ (Ok.first hQ) (by decide))
  -- what every later world keeps
  have HK := Lib.hid (show ∀ V, Only W1.heap.size w2.heap.size w2 V → Row V w.heap.size 26 #[.int .i64 0, .int .i64 0, .slice none 0 0] ∧ LiesY V 0 W1.heap.size A bs2 ∧ Below w.heap.size w V ∧ w2.heap.size ≤ V.heap.size from fun V hV =>
    ⟨(HX1.out.below hb2 HX1.out.size).only hV (Nat.lt_of_lt_of_le hg1 hb2.size) (Nat.ne_of_lt hg1), hY2.below ((hV.mono hb2.size).below (Nat.le_refl _)), HB1.out.trans ((hb2.trans ((hV.mono hb2.size).below (Nat.le_refl _))).mono HB1.out.size), hV.size⟩)
  have HZ2 := Lib.hid hz2
  clear hY2 hr2 hb2 hz2 HCO HX1 HB1
  go_wp2_with fail
  refine HC.out.mono ?_
  rintro e w3 ⟨v3, ds, bl, p3, rfl, hlok, ht3, hr3, hok3, hon3⟩
  obtain ⟨X3, c3, rfl, hc1, hc2⟩ := ht3.slice
  have hlen := libOk_len hlok
  have hsz : sizeD ds ≤ 1700 := by
    have h1 := sizeD_bound (m := 200) ds fun d hd => by
      have := small_le80 (libOk_small hlok d hd)
      omega
    have h2 : ds.length * (200 + 1) ≤ 8 * (200 + 1) := Nat.mul_le_mul_right _ hlen
    omega
  have har3 : ∀ d ∈ ds, d.ar ≤ 3 := fun d hd => by
    unfold libOk at hlok
    rw [Bool.and_eq_true] at hlok
    have h := okL_ar ds none hlok.2 d hd
    unfold arOk at h
    rw [Bool.and_eq_true] at h
    exact of_decide_eq_true h.2
  have hlt := ht3.lt
  have HL3 := Lib.hid ((ht3.lies (B := w3.heap.size) fun z hz => (hlt z hz).2).mono_ HZ2.out (Nat.le_refl _))
  have HR3 := Lib.hid hr3
  have HOK3 := Lib.hid hok3
  have HO3 := Lib.hid hon3
  have HAR := Lib.hid har3
  have HSZ := Lib.hid hsz
  clear ht3 hr3 hok3 hon3 hlt HC hlok har3
  have ba := (Below.refl w3.heap.size w3).alloc (Nat.le_refl _) (Obj.cells #[.int .i64 4, .int .i64 3, .int .i64 5, .int .i64 2] 3)
  have hgw3 : W1.heap.size < w3.heap.size := Row.size HR3.out
  have HN := Lib.hid (num_v W1.heap.size W1.heap.size A bc bs2 p3 (some ⟨w3.heap.size, 0, none⟩) 4 [4, 3, 5, 2] _ (Row.below HR3.out ba hgw3) ((HK.out _ HO3.out).2.1.below (ba.mono (Nat.le_of_lt hgw3))) (Nat.le_refl _) hl2 (HOK3.out.pb hQ) (lies_new w3 (W1.heap.size + 1) [4, 3, 5, 2] (by intro x hx; simp at hx; unfold I64; omega) hgw3) (by decide) (by decide))
  have HOA := Lib.hid (HO3.out.trans ((Only.of_below (g := W1.heap.size) ba).mono HO3.out.size))
  have HBA := Lib.hid ba
  clear ba
  go_wp2_with fail
  refine HN.out.mono ?_
  rintro e w5 ⟨y, hym, -, rfl, hr5, hon5⟩
  have hy := List.mem_of_getElem? hym
  simp at hy
  obtain ⟨d, rfl, hd2, hd5⟩ : ∃ d : Nat, y = (d : Int) ∧ 2 ≤ d ∧ d ≤ 5 := ⟨y.toNat, by omega, by omega, by omega⟩
  have hcd : costD d ≤ 282 ∧ nodesD d ≤ 121 := by
    rcases (show d = 2 ∨ d = 3 ∨ d = 4 ∨ d = 5 by omega) with rfl | rfl | rfl | rfl <;> decide
  have HO5 := Lib.hid (HOA.out.trans (hon5.mono (Nat.le_trans HO3.out.size HBA.out.size)))
  have HR5 := Lib.hid hr5
  have HL5 := Lib.hid (show LiesD w5 (W1.heap.size + 1) w5.heap.size X3 ds from HL3.out.keep (Nat.le_refl _) (Nat.le_trans HBA.out.size hon5.size) fun q h1 h2 => (hon5.cell (Nat.lt_of_lt_of_le h2 HBA.out.size) (by omega)).trans (HBA.out.cell h2))
  have HOK5 := Lib.hid (HOK3.out.next hQ (by omega))
  have HS := Lib.hid (l2Some_any d (by omega) W1.heap.size W1.heap.size A bc bs2 Q (p3 + 1) (0 + 1 + 1) ds X3 c3 w5 HR5.out (HK.out _ HO5.out).2.1 (Nat.le_refl _) hl2 hQ HOK5.out (by omega) (HL5.out.mono_ (Nat.zero_le _) (Nat.le_refl _)) (by omega) HAR.out)
  clear hym hr5 hon5 hy HN HOA HBA HL3 HR3 HO3
  go_wp2_with fail
  refine HS.out.mono ?_
  rintro e w6 ⟨o6, n6, k6, A6, c6, bl6, p6, rfl, hi6, ht6, hs6, hr6, hok6, hon6⟩
  obtain ⟨W7, hW7⟩ : ∃ W7, W7 = w6.alloc (Obj.cells #[.int .i64 o6, .int .i64 n6, .slice A6 k6.len c6] 26) := ⟨_, rfl⟩
  have hb7 : Below w6.heap.size w6 W7 := by rw [hW7]; exact (Below.refl _ _).alloc (Nat.le_refl _) _
  have HE7 := Lib.hid (show Row W7 w6.heap.size 26 #[.int .i64 o6, .int .i64 n6, .slice A6 k6.len c6] by rw [hW7]; exact Row.fresh _ _ _)
  have hgw6 : W1.heap.size < w6.heap.size := Row.size hr6
  have HO7 := Lib.hid (HO5.out.trans ((hon6.trans ((Only.of_below (g := W1.heap.size) hb7).mono hon6.size)).mono HO5.out.size))
  have HR7 := Lib.hid (show Rd W7 W1.heap.size A bc bs2 p6 from Row.below hr6 hb7 hgw6)
  have HT7 := Lib.hid ((ht6.over hb7).lower (base' := W1.heap.size + 1) (Row.size HR5.out))
  have HL7 := Lib.hid (show LiesD W7 (W1.heap.size + 1) W7.heap.size X3 ds from HL5.out.keep (Nat.le_refl _) (Nat.le_trans hon6.size hb7.size) fun q h1 h2 => (hb7.cell (Nat.lt_of_lt_of_le h2 hon6.size)).trans (hon6.cell h2 (by omega)))
  have HI7 := Lib.hid hi6
  have HK7 := Lib.hid (show k6.size ≤ 120 by omega)
  have HOK7 := Lib.hid (hok6.mono (show (0 : Int) + 1 + 1 + costD d ≤ 290 by omega))
  have HW7 := Lib.hid (show w2.heap.size ≤ w6.heap.size from Nat.le_trans HO5.out.size hon6.size)
  clear hb7 hgw6 ht6 hs6 hr6 hok6 hon6 hi6 HS HO5 HL5 HR5 HOK5
  go_upto_region 4 with fail
  rw [← hW7]
  clear hW7
  have HP := Lib.hid (pick_v W1.heap.size W1.heap.size A bc bs2 p6 8 W7 HR7.out (HK.out _ HO7.out).2.1 (Nat.le_refl _) hl2 (HOK7.out.pb hQ) (by decide) (by decide))
  have HC7 := Lib.hid (show ∀ V, Only W1.heap.size W7.heap.size W7 V → Row V w.heap.size 26 #[.int .i64 0, .int .i64 0, .slice none 0 0] ∧ Row V w6.heap.size 26 #[.int .i64 o6, .int .i64 n6, .slice A6 k6.len c6] ∧ LiesD V (W1.heap.size + 1) V.heap.size X3 ds ∧
      Tree V (W1.heap.size + 1) (.slice A6 k6.len c6) k6 bl6 ∧ LiesY V 0 W1.heap.size A bs2 ∧ Below w.heap.size w V from fun V hV => by
    have hV2 := HO7.out.trans (hV.mono HO7.out.size)
    obtain ⟨h1, h2, h3, h4⟩ := HK.out V hV2
    have hz6 : W1.heap.size < w6.heap.size := by have := HZ2.out; have := HW7.out; omega
    exact ⟨h1, HE7.out.only hV HE7.out.size (by omega), HL7.out.keep (Nat.le_refl _) hV.size fun q h1 h2 => hV.cell h2 (by omega), HT7.out.keep fun z hz => hV.block z (HT7.out.lt z hz).2 (by have := (HT7.out.lt z hz).1; omega), h2, h3⟩)
  clear HE7 HL7 HT7
  go_wp2_with fail
  refine HP.out.mono ?_
  rintro e w8 ⟨rfl, hr8, hon8⟩
  obtain ⟨x, hx⟩ : ∃ x, x = pkL bs2 p6 8 := ⟨_, rfl⟩
  rw [← hx]
  have HON8 := Lib.hid hon8
  have HR8 := Lib.hid (show Rd w8 W1.heap.size A bc bs2 (p6 + 1) from hr8)
  have HOK8 := Lib.hid (HOK7.out.next hQ (by decide))
  have hg8 : W1.heap.size + 1 ≤ w8.heap.size := by have := HZ2.out; have := HW7.out; have := HO7.out.size; have := hon8.size; omega
  clear hx hr8 hon8 HP HR7 HOK7
  by_cases hx0 : x = 0
  · have h0 : ((x : Int) == 0) = true := by simp; omega
    clear hx0
    obtain ⟨h1, h2, h3, h4, h5, h6⟩ := HC7.out _ HON8.out
    have q0 := h2.cell (i := 0) rfl
    have q1 := h2.cell (i := 1) rfl
    have q2 := h2.cell (i := 2) rfl
    have p0 : w8.drew.cell? ⟨w6.heap.size, 0, none⟩ = some (.int .i64 o6) := q0
    have p1 : w8.drew.cell? ⟨w6.heap.size, 1, none⟩ = some (.int .i64 n6) := q1
    have p2 : w8.drew.cell? ⟨w6.heap.size, 2, none⟩ = some (.slice A6 k6.len c6) := q2
    have hbd := (Below.refl w8.heap.size w8).drew
    have HM1 := Lib.hid (l2Mutate_any W1.heap.size W1.heap.size A bc bs2 Q (p6 + 1) (290 + 1) ds X3 c3 (W1.heap.size + 1) w8.drew HR8.out h5.drew (Nat.le_refl _) hl2 hQ HOK8.out (by decide) (Nat.lt_succ_self _) hg8 (h3.below hbd) (by omega) (by have := HSZ.out; omega))
    clear h1 h2 h3 h4 h5 h6
    go_wp2_with fail
    go_region_law (first
      | (refine step_call (f := 24) rfl (by kernel_rfl) HM2.out ?_
         rintro e w10 ⟨ds10, X10, c10, p10, rfl, hl10, hc10, hc10b, hn10, hs10, -, hok10, hon10⟩
         refine ⟨_, rfl, ?_⟩
         have hon : Only W1.heap.size W7.heap.size W7 w10 := HON9.out.trans (hon10.mono HON9.out.size)
         obtain ⟨r1, r2, -, r4, -, r6⟩ := HC7.out _ hon
         have u0 := r2.cell (i := 0) rfl
         have u1 := r2.cell (i := 1) rfl
         have u2 := r2.cell (i := 2) rfl
         have f0 := r1.free 0
         have f1 := r1.free 1
         have f2 := r1.free 2
         have d0 := r1.cell (i := 0) rfl
         have d1 := r1.cell (i := 1) rfl
         have d2 := r1.cell (i := 2) rfl
         have HXF := Lib.hid r1
         have HTF := Lib.hid r4
         have HBF := Lib.hid r6
         have HLF := Lib.hid hl10
         have HN1 := Lib.hid (show ds10.length ≤ 100 by have := HLN.out; omega)
         have HN2 := Lib.hid (show sizeD ds10 ≤ 1048576 by have := HS9.out; have := HSZ.out; have := hok10.lt; have := hQ.1; omega)
         have HN3 := Lib.hid (And.intro hc10 hc10b)
         clear hon r1 r2 r4 r6 hl10 hc10 hc10b hn10 hs10 hok10 hon10)
      | (refine step_call (f := 24) rfl (by kernel_rfl) HM1.out ?_
         rintro e w9 ⟨ds9, X9, c9, p9, rfl, hl9, hc9, hc9b, hn9, hs9, hr9, hok9, hon9⟩
         refine ⟨_, rfl, ?_⟩
         have hon : Only W1.heap.size W7.heap.size W7 w9 := HON8.out.drew.trans (hon9.mono HON8.out.size)
         obtain ⟨r1, r2, -, r4, r5, r6⟩ := HC7.out _ hon
         have u0 := r2.cell (i := 0) rfl
         have u1 := r2.cell (i := 1) rfl
         have u2 := r2.cell (i := 2) rfl
         have HON9 := Lib.hid hon
         have HLN := Lib.hid (show ds9.length ≤ 9 by omega)
         have HS9 := Lib.hid (And.intro hs9 hok9.lt)
         have HM2 := Lib.hid (l2Mutate_any W1.heap.size W1.heap.size A bc bs2 Q p9 (290 + 1 + 6) ds9 X9 c9 (W1.heap.size + 1) w9 hr9 r5 (Nat.le_refl _) hl2 hQ hok9 (by decide) (Nat.lt_succ_self _) (Nat.le_trans hg8 hon9.size) hl9 (by omega) (by have := HSZ.out; omega))
         clear hon r1 r2 r4 r5 r6 hl9 hc9 hc9b hn9 hs9 hr9 hok9 hon9))
    all_goals
      go_wp2_with fail
      have r7 := ((HXF.out.put 0 (.int .i64 o6)).put 1 (.int .i64 n6)).put 2 (.slice A6 k6.len c6)
      have t0 := r7.cell (i := 0) rfl
      have t1 := r7.cell (i := 1) rfl
      have t2 := r7.cell (i := 2) rfl
      refine bodyPost_ret (v := .tuple #[.slice X10 ds10.length c10, .agg #[.int .i64 o6, .int .i64 n6, .slice A6 k6.len c6]]) ?_ rfl (case2_end (HLF.out.mono_ (Nat.le_succ_of_le hg1) (Nat.le_refl _)) HN3.out.1 HN3.out.2 HN1.out HN2.out HI7.out (HTF.out.lower (Nat.le_succ_of_le hg1)) (by have := HK7.out; omega) HBF.out _ _ _)
      simp [results, Try.f9, go_sem, t0, t1, t2]
  have h0 : ((x : Int) == 0) = false := by simp; omega
  clear hx0
  have HP2 := Lib.hid (pick_v W1.heap.size W1.heap.size A bc bs2 (p6 + 1) 10 w8 HR8.out (HC7.out _ HON8.out).2.2.2.2.1 (Nat.le_refl _) hl2 (HOK8.out.pb hQ) (by decide) (by decide))
  go_wp2_with fail
  refine HP2.out.mono ?_
  rintro e w9 ⟨rfl, hr9, hon9⟩
  obtain ⟨y, hy⟩ : ∃ y, y = pkL bs2 (p6 + 1) 10 := ⟨_, rfl⟩
  rw [← hy]
  have HON9 := Lib.hid (HON8.out.trans (hon9.mono HON8.out.size))
  have HG9 := Lib.hid (show w8.heap.size ≤ w9.heap.size from hon9.size)
  have HR9 := Lib.hid (show Rd w9 W1.heap.size A bc bs2 (p6 + 1 + 1) from hr9)
  have HOK9 := Lib.hid (HOK8.out.next hQ (by decide))
  clear hy hr9 hon9 HP2 HR8 HOK8
  obtain ⟨h1, h2, h3, h4, h5, h6⟩ := HC7.out _ HON9.out
  have q0 := h2.cell (i := 0) rfl
  have q1 := h2.cell (i := 1) rfl
  have q2 := h2.cell (i := 2) rfl
  have HL9 := Lib.hid h3
  by_cases hy0 : y = 0
  · have h0' : ((y : Int) == 0) = true := by simp; omega
    clear hy0
    have HM1 := Lib.hid (mut_any (Q - (p6 + 1 + 1)) W1.heap.size W1.heap.size A bc bs2 Q (p6 + 1 + 1) (290 + 1 + 1) o6 n6 k6 A6 c6 w9 rfl HR9.out h5 (Nat.le_refl _) hl2 hQ HOK9.out (by decide) ((h4.lies (B := w9.heap.size) fun z hz => (h4.lt z hz).2).mono_ (Nat.zero_le _) (Nat.le_refl _)) HI7.out (by have := HK7.out; omega))
    clear h1 h2 h3 h4 h5 h6
    go_wp2_with fail
    refine HM1.out.mono ?_
    rintro e w10 ⟨oa, na, ka, Aa, ca, bla, pa, rfl, hia, hta, hsa, hra, hoka, hona⟩
    have hon := HON9.out.trans (hona.mono HON9.out.size)
    have HM2 := Lib.hid (mut_any (Q - pa) W1.heap.size W1.heap.size A bc bs2 Q pa (290 + 1 + 1 + 2) oa na ka Aa ca w10 rfl hra (HC7.out _ hon).2.2.2.2.1 (Nat.le_refl _) hl2 hQ hoka (by decide) ((hta.lies (B := w10.heap.size) fun z hz => (hta.lt z hz).2).mono_ (Nat.zero_le _) (Nat.le_refl _)) hia (by have := HK7.out; omega))
    have HON10 := Lib.hid hon
    have HSA := Lib.hid (And.intro hsa hoka.lt)
    have HGA := Lib.hid (show w9.heap.size ≤ w10.heap.size from hona.size)
    clear hon hia hta hsa hra hoka hona q0 q1 q2 HM1
    go_wp2_with fail
    refine HM2.out.mono ?_
    rintro e w11 ⟨ob, nb, kb, Ab, cb, blb, pb, rfl, hib, htb, hsb, -, hokb, honb⟩
    have hon := HON10.out.trans (honb.mono HON10.out.size)
    obtain ⟨r1, -, r3, -, -, r6⟩ := HC7.out _ hon
    have f0 := r1.free 0
    have f1 := r1.free 1
    have f2 := r1.free 2
    have d0 := r1.cell (i := 0) rfl
    have d1 := r1.cell (i := 1) rfl
    have d2 := r1.cell (i := 2) rfl
    have HXF := Lib.hid r1
    have HLF := Lib.hid r3
    have HBF := Lib.hid r6
    have HTF := Lib.hid (htb.lower (base' := w.heap.size + 1) (by have := HG9.out; have := HGA.out; omega))
    have HIB := Lib.hid hib
    have HKB := Lib.hid (show kb.size ≤ 1000000 by have := HSA.out; have := hokb.lt; have := hQ.1; have := HK7.out; omega)
    clear hon r1 r3 r6 hib htb hsb hokb honb HM2
    go_wp2_with fail
    have r7 := ((HXF.out.put 0 (.int .i64 ob)).put 1 (.int .i64 nb)).put 2 (.slice Ab kb.len cb)
    have t0 := r7.cell (i := 0) rfl
    have t1 := r7.cell (i := 1) rfl
    have t2 := r7.cell (i := 2) rfl
    refine bodyPost_ret (v := .tuple #[.slice X3 ds.length c3, .agg #[.int .i64 ob, .int .i64 nb, .slice Ab kb.len cb]]) ?_ rfl (case2_end (HLF.out.mono_ (Nat.le_succ_of_le hg1) (Nat.le_refl _)) hc1 hc2 (by omega) (by have := HSZ.out; omega) HIB.out HTF.out HKB.out HBF.out _ _ _)
    simp [results, Try.f9, go_sem, t0, t1, t2]
  · have h0' : ((y : Int) == 0) = false := by simp; omega
    clear hy0
    have p0 : w9.drew.cell? ⟨w6.heap.size, 0, none⟩ = some (.int .i64 o6) := q0
    have p1 : w9.drew.cell? ⟨w6.heap.size, 1, none⟩ = some (.int .i64 n6) := q1
    have p2 : w9.drew.cell? ⟨w6.heap.size, 2, none⟩ = some (.slice A6 k6.len c6) := q2
    have f0 := h1.free 0
    have f1 := h1.free 1
    have f2 := h1.free 2
    have d0 := h1.cell (i := 0) rfl
    have d1 := h1.cell (i := 1) rfl
    have d2 := h1.cell (i := 2) rfl
    have HXF := Lib.hid h1
    have HTF := Lib.hid h4
    have HBF := Lib.hid h6
    clear h1 h2 h3 h4 h5 h6
    go_wp2_with fail
    go_region_law (fail)
    have hbd := (Below.refl w9.heap.size w9).drew
    have HLd := Lib.hid ((HL9.out.below hbd).mono_ (Nat.le_refl _) (Nat.le_refl _))
    have HTd := Lib.hid (HTF.out.over hbd)
    have HBd := Lib.hid HBF.out.drew
    clear hbd
    all_goals
      go_wp2_with fail
      have r7 := ((HXF.out.put 0 (.int .i64 o6)).put 1 (.int .i64 n6)).put 2 (.slice A6 k6.len c6)
      have t0 := r7.cell (i := 0) rfl
      have t1 := r7.cell (i := 1) rfl
      have t2 := r7.cell (i := 2) rfl
      refine bodyPost_ret (v := .tuple #[.slice X3 ds.length c3, .agg #[.int .i64 o6, .int .i64 n6, .slice A6 k6.len c6]]) ?_ rfl ?_
      · simp [results, Try.f9, go_sem, t0, t1, t2]
      · first
        | exact case2_end (V := w9.drew) (HLd.out.mono_ (Nat.le_succ_of_le hg1) (Nat.le_refl _)) hc1 hc2 (by omega) (by have := HSZ.out; omega) HI7.out (HTd.out.lower (Nat.le_succ_of_le hg1)) (by have := HK7.out; omega) HBd.out _ _ _
        | exact case2_end (V := w9) (HL9.out.mono_ (Nat.le_succ_of_le hg1) (Nat.le_refl _)) hc1 hc2 (by omega) (by have := HSZ.out; omega) HI7.out (HTF.out.lower (Nat.le_succ_of_le hg1)) (by have := HK7.out; omega) HBF.out _ _ _
end Go.Proofs.Ytgcdmikbdpkpcaa

namespace Go.Proofs.Ytgcdmikbdpkpcaa
open Go.RowKit Go.Shelf
set_option maxRecDepth 100000

set_option maxHeartbeats 4000000 in
theorem drawCF_any (A : Option Addr) (bc : Nat) (bs : List Nat) (w : World) (hB : LiesY w 0 w.heap.size A bs) (hl : bs.length ≤ bc) (hc : bc ≤ maxLen) :
    Calls Try.prog 4 #[.slice A bs.length bc] w (Case2Post w) := by
  obtain ⟨W1, hW1⟩ : ∃ W1, W1 = w.alloc (Obj.cells #[.int .i64 0, .int .i64 0, .slice none 0 0] 26) := ⟨_, rfl⟩
  have hb1 : Below w.heap.size w W1 := by rw [hW1]; exact (Below.refl _ _).alloc (Nat.le_refl _) _
  have hx1 : Row W1 w.heap.size 26 #[.int .i64 0, .int .i64 0, .slice none 0 0] := by rw [hW1]; exact Row.fresh _ _ _
  have hY1 : LiesY W1 0 W1.heap.size A bs := (hB.below hb1).keep (Nat.le_refl _) hb1.size fun _ _ _ => rfl
  have HC := Lib.hid (l2Case_any A bc bs W1 hY1 hl hc)
  have HX1 := Lib.hid hx1
  have HY1 := Lib.hid hY1
  have HB1 := Lib.hid hb1
  have hg1 : w.heap.size < W1.heap.size := hx1.size
  clear hb1 hx1 hB hY1
  go_enter Try.func4, Try.ntmps4
  go_upto_region 1 with fail
  rw [← hW1]
  clear hW1
  go_wp2_with fail
  refine HC.out.mono ?_
  rintro e w2 ⟨ds, X, c, op, n, k, Y, cy, bl, rfl, ⟨hL, hc1, hc2, hn, hs⟩, hi, ht, hk, hb2⟩
  obtain ⟨W3, hW3⟩ : ∃ W3, W3 = w2.alloc (Obj.cells #[.int .i64 op, .int .i64 n, .slice Y k.len cy] 26) := ⟨_, rfl⟩
  have hb3 : Below w2.heap.size w2 W3 := by rw [hW3]; exact (Below.refl _ _).alloc (Nat.le_refl _) _
  have HE3 := Lib.hid (show Row W3 w2.heap.size 26 #[.int .i64 op, .int .i64 n, .slice Y k.len cy] by rw [hW3]; exact Row.fresh _ _ _)
  have hb13 : Below W1.heap.size W1 W3 := hb2.trans (hb3.mono hb2.size)
  have HX3 := Lib.hid (HX1.out.below hb13 hg1)
  have HB3 := Lib.hid (HB1.out.trans (hb13.mono HB1.out.size))
  have HL3 := Lib.hid (show LiesD W3 W1.heap.size W3.heap.size X ds from (hL.below hb3).mono_ (Nat.le_refl _) hb3.size)
  have HT3 := Lib.hid (ht.over hb3)
  have HI := Lib.hid hi
  have HCO := Lib.hid (open_any A bc bs W3 ((HY1.out.below hb13).keep (Nat.le_refl _) hb13.size fun _ _ _ => rfl) hl hc)
  clear hb2 hb3 hb13 hL ht hi HC HX1 HB1 HY1
  go_upto_region 2 with fail
  rw [← hW3]
  clear hW3
  go_wp2_with fail
  refine HCO.out.mono ?_
  rintro e w4 ⟨bs2, hl2, rfl, hY4, hr4, hb4, hz4⟩
  obtain ⟨Q, hQ⟩ := lim_ex bs2 hl2 hY4.small
  have HP := Lib.hid (pick_v W3.heap.size W3.heap.size A bc bs2 0 4 w4 hr4 hY4 (Nat.le_refl _) hl2 (by decide) (by decide) (by decide))
  have HB4 := Lib.hid hb4
  have HY4 := Lib.hid hY4
  have HZ4 := Lib.hid hz4
  clear hY4 hr4 hb4 hz4 HCO
  go_wp2_with fail
  refine HP.out.mono ?_
  rintro e w5 ⟨rfl, hr5, hon5⟩
  obtain ⟨x, hx⟩ : ∃ x, x = pkL bs2 0 4 := ⟨_, rfl⟩
  rw [← hx]
  have hb5 : Below W3.heap.size W3 w5 := HB4.out.trans ((hon5.mono HB4.out.size).below (Nat.le_refl _))
  have HB5 := Lib.hid hb5
  have HR5 := Lib.hid hr5
  have HY5 := Lib.hid (HY4.out.below ((hon5.mono HB4.out.size).below (Nat.le_refl _)))
  have HOK5 := Lib.hid ((Ok.first hQ).next hQ (by decide))
  have hs3 : w2.heap.size < W3.heap.size := HE3.out.size
  have hx3 : w.heap.size < W3.heap.size := HX3.out.size
  clear hx hr5 hon5 hb5 HP HY4
  by_cases hx0 : x = 0
  · have h0 : ((x : Int) == 0) = true := by simp; omega
    clear hx0
    have ba := (Below.refl w5.heap.size w5).alloc (Nat.le_refl _) (Obj.cells #[.int .i64 0] 3)
    have HBA := Lib.hid ba
    have HAR := Lib.hid (arity_any (w5.alloc (Obj.cells #[.int .i64 0] 3)))
    clear ba
    go_wp2_with fail
    refine HAR.out.mono ?_
    rintro e w6 ⟨rfl, hw6⟩
    have hgl : W3.heap.size < w5.heap.size := Row.size HR5.out
    have hb6 : Below (w5.alloc (Obj.cells #[.int .i64 0] 3)).heap.size (w5.alloc (Obj.cells #[.int .i64 0] 3)) w6 := by rw [hw6]; exact (Below.refl _ _).alloc (Nat.le_refl _) _
    have hA6 : LiesI w6 (W3.heap.size + 1) w6.heap.size (some ⟨(w5.alloc (Obj.cells #[.int .i64 0] 3)).heap.size, 0, none⟩) [1, 2, 0, 3, -1, -1, 1, 2] := by
      rw [hw6]; exact lies_new (w5.alloc (Obj.cells #[.int .i64 0] 3)) (W3.heap.size + 1) [1, 2, 0, 3, -1, -1, 1, 2] (by intro x hx; simp at hx; unfold I64; omega) (Nat.le_trans hgl HBA.out.size)
    rw [show (w5.alloc (Obj.cells #[.int .i64 0] 3)).heap.size = w5.heap.size + 1 from World.size_alloc _ _] at hA6
    have hZ6 : LiesI w6 (W3.heap.size + 1) w6.heap.size (some ⟨w5.heap.size, 0, none⟩) [0] := ((lies_new w5 (W3.heap.size + 1) [0] (by intro x hx; simp at hx; unfold I64; omega) hgl).below hb6).mono_ (Nat.le_refl _) hb6.size
    have hb56 : Below w5.heap.size w5 w6 := HBA.out.trans (hb6.mono HBA.out.size)
    have HS := Lib.hid (some_any 3 (by decide) W3.heap.size W3.heap.size A bc bs2 Q 1 1 (some ⟨w5.heap.size, 0, none⟩) 1 [0] (some ⟨w5.heap.size + 1, 0, none⟩) 8 [1, 2, 0, 3, -1, -1, 1, 2] w6 (Row.below HR5.out hb56 hgl) (HY5.out.below (hb56.mono (Nat.le_of_lt hgl))) (Nat.le_refl _) hl2 hQ (HOK5.out.mono (by decide)) (by decide) hZ6 (by decide) hA6 (by decide) (by intro x hx; simp at hx; omega))
    have HB6 := Lib.hid (HB5.out.trans (hb56.mono HB5.out.size))
    clear hw6 hb6 hA6 hZ6 hb56 HAR HBA
    go_wp2_with fail
    refine HS.out.mono ?_
    rintro e w7 ⟨oa, na, ka, Aa, ca, bla, pa, rfl, hia, hta, hsa, -, -, hona⟩
    have hbF : Below W3.heap.size W3 w7 := HB6.out.trans ((hona.mono HB6.out.size).below (Nat.le_refl _))
    have r1 := HX3.out.below hbF hx3
    have f0 := r1.free 0
    have f1 := r1.free 1
    have f2 := r1.free 2
    have d0 := r1.cell (i := 0) rfl
    have d1 := r1.cell (i := 1) rfl
    have d2 := r1.cell (i := 2) rfl
    have HXF := Lib.hid r1
    have HTF := Lib.hid (hta.lower (base' := w.heap.size + 1) (by have := HB6.out.size; omega))
    have HLF := Lib.hid ((HL3.out.below hbF).mono_ (Nat.le_refl _) hbF.size)
    have HBF := Lib.hid (HB3.out.trans (hbF.mono HB3.out.size))
    have HIA := Lib.hid hia
    have HKA := Lib.hid (show ka.size ≤ 1000000 from Nat.le_trans (Nat.le_of_succ_le hsa) (by decide))
    clear hbF r1 hia hta hsa hona HS
    go_wp2_with fail
    have r7 := ((HXF.out.put 0 (.int .i64 oa)).put 1 (.int .i64 na)).put 2 (.slice Aa ka.len ca)
    have t0 := r7.cell (i := 0) rfl
    have t1 := r7.cell (i := 1) rfl
    have t2 := r7.cell (i := 2) rfl
    refine bodyPost_ret (v := .tuple #[.slice X ds.length c, .agg #[.int .i64 oa, .int .i64 na, .slice Aa ka.len ca]]) ?_ rfl (case2_end (HLF.out.mono_ hg1 (Nat.le_refl _)) hc1 hc2 hn hs HIA.out HTF.out HKA.out HBF.out _ _ _)
    simp [results, Try.f4, go_sem, t0, t1, t2]
  · have h0 : ((x : Int) == 0) = false := by simp; omega
    clear hx0
    have r2 := HE3.out.below HB5.out hs3
    have r1 := HX3.out.below HB5.out hx3
    have q0 := r2.cell (i := 0) rfl
    have q1 := r2.cell (i := 1) rfl
    have q2 := r2.cell (i := 2) rfl
    have p0 : w5.drew.cell? ⟨w2.heap.size, 0, none⟩ = some (.int .i64 op) := q0
    have p1 : w5.drew.cell? ⟨w2.heap.size, 1, none⟩ = some (.int .i64 n) := q1
    have p2 : w5.drew.cell? ⟨w2.heap.size, 2, none⟩ = some (.slice Y k.len cy) := q2
    have f0 := r1.free 0
    have f1 := r1.free 1
    have f2 := r1.free 2
    have d0 := r1.cell (i := 0) rfl
    have d1 := r1.cell (i := 1) rfl
    have d2 := r1.cell (i := 2) rfl
    have HXF := Lib.hid r1
    have HTF := Lib.hid (HT3.out.over HB5.out)
    have HLF := Lib.hid ((HL3.out.below HB5.out).mono_ (Nat.le_refl _) HB5.out.size)
    have HBF := Lib.hid (HB3.out.trans (HB5.out.mono HB3.out.size))
    clear r1 r2
    go_wp2_with fail
    go_region_law (fail)
    have hbd := (Below.refl w5.heap.size w5).drew
    have HLd := Lib.hid ((HLF.out.below hbd).mono_ (Nat.le_refl _) (Nat.le_refl _))
    have HTd := Lib.hid (HTF.out.over hbd)
    have HBd := Lib.hid HBF.out.drew
    clear hbd
    go_wp2_with fail
    have r7 := ((HXF.out.put 0 (.int .i64 op)).put 1 (.int .i64 n)).put 2 (.slice Y k.len cy)
    have t0 := r7.cell (i := 0) rfl
    have t1 := r7.cell (i := 1) rfl
    have t2 := r7.cell (i := 2) rfl
    refine bodyPost_ret (v := .tuple #[.slice X ds.length c, .agg #[.int .i64 op, .int .i64 n, .slice Y k.len cy]]) ?_ rfl ?_
    · simp [results, Try.f4, go_sem, t0, t1, t2]
    · exact case2_end (V := w5.drew) (HLd.out.mono_ hg1 (Nat.le_refl _)) hc1 hc2 hn hs HI.out (HTd.out.lower hg1) hk HBd.out _ _ _
end Go.Proofs.Ytgcdmikbdpkpcaa

namespace Go.Proofs.Ytgcdmikbdpkpcaa
open Go.RowKit Go.Shelf
set_option maxRecDepth 100000

end Go.Proofs.Ytgcdmikbdpkpcaa
