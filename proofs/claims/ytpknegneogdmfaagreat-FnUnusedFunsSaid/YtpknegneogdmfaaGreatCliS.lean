/-
  spec.l2Arity: the arities of a library's functions by name.
  spec.l2Some: a client of a library is drawn.
  spec.l2Case: a library and a client of it are drawn.
  The draws of a library and a client: DrawCallsFit, DrawClientValid.
  DrawClientValid: what DrawCallsFit draws.
-/
import Derived.Test.YtpknegneogdmfaaGreatSomeS
import Derived.Test.YtpknegneogdmfaaGreatLibVD
import Derived.Test.YtpknegneogdmfaaGreatMutLib
import Derived.Test.YtpknegneogdmfaaGreatCaseS
namespace Go.Proofs.YtpknegneogdmfaaGreat
open Go.RowKit Go.Shelf
set_option maxRecDepth 100000

def Ar2Post (w : World) (e : Ending) (w' : World) : Prop :=
  ∃ (v : Value) (ar : List Int), e = .returned v ∧ w'.ownsRow w.heap.size 3 1 v ar.length (ar.map (Value.int .i64)) ∧ ar.length = 8 ∧ (∀ x ∈ ar, I64 x) ∧ (∀ x ∈ ar, x ≤ 3) ∧ Below w.heap.size w w'

theorem all_snoc {P : Int → Prop} {zs : List Int} {y : Int} (h : ∀ x ∈ zs, P x) (hy : P y) : ∀ x ∈ zs ++ [y], P x := fun x hx => by
  rcases List.mem_append.1 hx with h1 | h1
  · exact h x h1
  · rw [List.mem_singleton.1 h1]; exact hy

set_option maxHeartbeats 2000000 in
theorem l2Arity_any (ds : List De) (X : Option Addr) (c : Nat) (w : World) (hl : LiesD w 0 w.heap.size X ds) (hn : ds.length ≤ 1048576) (h3 : ∀ d ∈ ds, d.ar ≤ 3) :
    Calls Tryz.prog 30 #[.slice X ds.length c] w (Ar2Post w) := by
  obtain ⟨W1, hW1⟩ : ∃ W1, W1 = w.alloc (Obj.cells #[] 3) := ⟨_, rfl⟩
  have hb1 : Below w.heap.size w W1 := by rw [hW1]; exact (Below.refl _ _).alloc (Nat.le_refl _) _
  have hx1 : Row W1 w.heap.size 3 #[] := by rw [hW1]; exact Row.fresh _ _ _
  have hO1 : W1.ownsRow w.heap.size 3 1 (.slice (some ⟨w.heap.size, 0, none⟩) 0 0) 0 [] := ⟨rfl, .inr ⟨w.heap.size, 0, #[], rfl, Nat.le_refl _, hx1, Nat.le_refl _, by decide, rfl, rfl⟩⟩
  have HL := Lib.hid hl
  clear hx1 hl
  go_enter Tryz.func30, Tryz.ntmps30
  go_upto_region 2 with fail
  rw [← hW1]
  clear hW1
  go_wp2_with fail
  go_loopw [3, 4] (fun v i wr => ∃ (j : Nat) (zs : List Int), i = .int .i64 (j : Int) ∧ zs.length = j ∧ j ≤ 8 ∧ (∀ x ∈ zs, I64 x) ∧ (∀ x ∈ zs, x ≤ 3) ∧ wr.ownsRow w.heap.size 3 1 v zs.length (zs.map (Value.int .i64)) ∧ Below w.heap.size w wr)
    (fun _ i _ => 8 - (intOf i).toNat)
  case atStart => exact ⟨0, [], rfl, rfl, by omega, fun x h => by simp at h, fun x h => by simp at h, hO1, hb1⟩
  case round =>
    clear hb1 hO1
    obtain ⟨j, zs, rfl, hzl, hj, hzi, hz3, hown, hb⟩ := hrel
    by_cases hlt : j < 8
    · have HP := Lib.hid (place_any ds X c wr (j : Int) (HL.out.up hb) hn)
      have HO := Lib.hid hown
      have HB := Lib.hid hb
      obtain ⟨iT, hiT, hiz0, hiz1, hiz2⟩ := info_parts (show (Tryz.prog.info? 3).map (fun i => (i.zero, i.size, i.bytes)) = some (some (.int .i64 0), 1, 8) by kernel_rfl)
      have HIT := Lib.hid hiT
      have HIZ0 := Lib.hid hiz0
      have HIZ1 := Lib.hid hiz1
      have HIZ2 := Lib.hid hiz2
      have HC3 := Lib.hid (show zs.length + 1 ≤ maxLen by unfold maxLen; omega)
      have HC4 := Lib.hid (show (zs.length + 1) * 8 ≤ 140737488355328 by omega)
      clear hiT hiz0 hiz1 hiz2 hown hb
      go_wp2_with fail
      refine HP.out.mono ?_
      rintro e w5 ⟨rfl, hb5⟩
      have hB5 := HB.out.trans (hb5.mono HB.out.size)
      have hO5 := own_at (w' := w5) HO.out fun g hg => hb5.block g (HO.out.lt g hg).2
      have HO5 := Lib.hid hO5
      have HB5 := Lib.hid hB5
      clear hb5 hB5 hO5 HP HO HB
      by_cases hp : plc (j : Int) ds < ds.length
      · obtain ⟨p, hpp⟩ : ∃ p, p = plc (j : Int) ds := ⟨_, rfl⟩
        have hv : plcI (j : Int) ds = (p : Int) := by unfold plcI; rw [if_pos hp, hpp]
        rw [hv]
        rw [← hpp] at hp
        obtain ⟨d, hd⟩ : ∃ d, ds[p]? = some d := ⟨_, List.getElem?_eq_getElem hp⟩
        obtain ⟨b, o, A', c', rfl, hbb, hbw, hf, g0, g1, _⟩ := (HL.out.up HB5.out) p d hd
        have hpi : (p : Int) < (ds.length : Int) := by omega
        have HF := Lib.hid (all_snoc hzi hf.2.1)
        have HG := Lib.hid (all_snoc hz3 (h3 d (List.mem_of_getElem? hd)))
        have C1 := Lib.hid (fresh_cells w5 3 #[Value.int .i64 d.ar])
        have HC2 := Lib.hid (show ∀ u ∈ [Value.int .i64 d.ar], u.oneCell' = true by intro u hu; rw [List.mem_singleton.1 hu]; rfl)
        have HC5 := Lib.hid (show w.heap.size ≤ (w5.alloc (.cells #[Value.int .i64 d.ar] 3)).heap.size by have := HB5.out.size; rw [World.size_alloc]; omega)
        have HOA := Lib.hid (HO5.out.alloc (.cells #[Value.int .i64 d.ar] 3))
        clear hpp hv hd hf g0
        go_wp2_with (at_builtin; refine wpList_append_own_at _ rfl _ _ 27 rfl w.heap.size 3 iT _ 1 8 Tryz.underlying27 HIT.out HIZ0.out HIZ1.out HIZ2.out rfl (by decide) _ _ _ rfl HOA.out ⟨w5.heap.size, 0, none⟩ 1 1 [Value.int .i64 d.ar] rfl rfl C1.out HC2.out HC3.out HC4.out HC5.out ?_; intro v' w' hown6 hgrow6 _ hblk)
        have HB6 := Lib.hid (show Below w.heap.size w w' from Below.grown (HB5.out.alloc HB5.out.size (.cells #[Value.int .i64 d.ar] 3)) hgrow6 HC5.out (fun g' hg' => own_at_least HO5.out hg'))
        have HO6 := Lib.hid hown6
        clear hown6 hgrow6 hblk g1
        go_wp2_with fail
        go_roundw
        case rel => exact ⟨j + 1, zs ++ [d.ar], by go_num, by simp; omega, by omega, HF.out, HG.out, by rw [List.length_append, List.map_append]; exact HO6.out, HB6.out⟩
        case measure => simp [intOf]; omega
      · have hv : plcI (j : Int) ds = -1 := by unfold plcI; rw [if_neg hp]
        rw [hv]
        have HF := Lib.hid (all_snoc (y := -1) hzi (by unfold I64; omega))
        have HG := Lib.hid (all_snoc (y := -1) hz3 (by omega))
        have C1 := Lib.hid (fresh_cells w5 3 #[Value.int .i64 (-1)])
        have HC2 := Lib.hid (show ∀ u ∈ [Value.int .i64 (-1)], u.oneCell' = true by intro u hu; rw [List.mem_singleton.1 hu]; rfl)
        have HC5 := Lib.hid (show w.heap.size ≤ (w5.alloc (.cells #[Value.int .i64 (-1)] 3)).heap.size by have := HB5.out.size; rw [World.size_alloc]; omega)
        have HOA := Lib.hid (HO5.out.alloc (.cells #[Value.int .i64 (-1)] 3))
        clear hv hp
        go_wp2_with (at_builtin; refine wpList_append_own_at _ rfl _ _ 27 rfl w.heap.size 3 iT _ 1 8 Tryz.underlying27 HIT.out HIZ0.out HIZ1.out HIZ2.out rfl (by decide) _ _ _ rfl HOA.out ⟨w5.heap.size, 0, none⟩ 1 1 [Value.int .i64 (-1)] rfl rfl C1.out HC2.out HC3.out HC4.out HC5.out ?_; intro v' w' hown6 hgrow6 _ hblk)
        have HB6 := Lib.hid (show Below w.heap.size w w' from Below.grown (HB5.out.alloc HB5.out.size (.cells #[Value.int .i64 (-1)] 3)) hgrow6 HC5.out (fun g' hg' => own_at_least HO5.out hg'))
        have HO6 := Lib.hid hown6
        clear hown6 hgrow6 hblk
        go_wp2_with fail
        go_roundw
        case rel => exact ⟨j + 1, zs ++ [-1], by go_num, by simp; omega, by omega, HF.out, HG.out, by rw [List.length_append, List.map_append]; exact HO6.out, HB6.out⟩
        case measure => simp [intOf]; omega
    · have e9 : j = 8 := by omega
      subst e9
      have HO := Lib.hid hown
      clear hown
      go_wp2_with fail
      go_ret
      exact ⟨_, zs, rfl, HO.out, hzl, hzi, hz3, hb⟩
end Go.Proofs.YtpknegneogdmfaaGreat

namespace Go.Proofs.YtpknegneogdmfaaGreat
open Go.RowKit Go.Shelf
set_option maxRecDepth 100000

set_option maxHeartbeats 2000000 in
theorem l2Some_any (d : Nat) (hd : d ≤ 20) (g base : Nat) (A : Option Addr) (bc : Nat) (bs : List Nat) (Q p : Nat) (b : Int) (ds : List De) (X : Option Addr) (c : Nat) (w : World) (hr : Rd w g A bc bs p) (hY : LiesY w 0 base A bs) (hbg : base ≤ g) (hbl : bs.length ≤ 2000) (hQ : Lim bs Q) (hok : Ok bs Q p b) (hb9 : b + costD d ≤ 4000)
    (hl : LiesD w 0 w.heap.size X ds) (hn : ds.length ≤ 1048576) (h3 : ∀ d ∈ ds, d.ar ≤ 3) :
    Calls Tryz.prog 17 #[.pointer (some ⟨g, 0, none⟩), .slice X ds.length c, .int .i64 (d : Int)] w (SomePost g A bc bs Q (b + costD d) (nodesD d) w) := by
  have hgz : g < w.heap.size := hr.size
  obtain ⟨W1, hW1⟩ : ∃ W1, W1 = w.alloc (Obj.cells #[.int .i64 0, .int .i64 0, .slice none 0 0] 36) := ⟨_, rfl⟩
  have hb1 : Below w.heap.size w W1 := by rw [hW1]; exact (Below.refl _ _).alloc (Nat.le_refl _) _
  have hx1 : Row W1 w.heap.size 36 #[.int .i64 0, .int .i64 0, .slice none 0 0] := by rw [hW1]; exact Row.fresh _ _ _
  obtain ⟨W2, hW2⟩ : ∃ W2, W2 = W1.alloc (Obj.cells #[] 3) := ⟨_, rfl⟩
  have hb2 : Below W1.heap.size W1 W2 := by rw [hW2]; exact (Below.refl _ _).alloc (Nat.le_refl _) _
  have hbb : Below w.heap.size w W2 := hb1.trans (hb2.mono hb1.size)
  have HA := Lib.hid (l2Arity_any ds X c W2 (hl.up hbb) hn h3)
  have HX := Lib.hid (hx1.below hb2 hx1.size)
  have HR := Lib.hid (Row.below hr hbb hgz)
  have HY := Lib.hid (hY.below (hbb.mono (by omega)))
  have HB := Lib.hid hbb
  have HZ := Lib.hid hb2.size
  have HZ1 := Lib.hid hx1.size
  clear hr hY hx1 hb1 hb2 hbb hl
  go_enter Tryz.func17, Tryz.ntmps17
  go_upto_region 1 with fail
  rw [← hW1]
  clear hW1
  go_wp2_with fail
  rw [← hW2]
  clear hW2
  refine HA.out.mono ?_
  rintro e w3 ⟨v3, ar, rfl, hown, har8, hari, har3, hb3⟩
  obtain ⟨RA, Rc, rfl, hRI⟩ := own_ints hown hari
  have hgz3 : g < W2.heap.size := by have := HB.out.size; omega
  have HS := Lib.hid (some_any d hd g base A bc bs Q p b (some ⟨W1.heap.size, 0, none⟩) 0 [] RA Rc ar w3 (Row.below HR.out hb3 hgz3) (HY.out.below (hb3.mono (by omega))) hbg hbl hQ hok hb9 (fun i x hx => by simp at hx) (by simp; omega) (hRI.mono_ (by omega) (Nat.le_refl _)) (by omega) har3)
  have HX3 := Lib.hid (HX.out.below hb3 HX.out.size)
  have HB3 := Lib.hid (HB.out.trans (hb3.mono HB.out.size))
  clear hown hRI hb3 HA HR HY HB HX har8
  go_wp2_with fail
  refine HS.out.mono ?_
  rintro e w4 ⟨o8, n8, k8, A8, c8, bl8, p8, rfl, hi8, ht8, hs8, hr8, hok8, hon8⟩
  have hz3 : w.heap.size < w3.heap.size := HX3.out.size
  have hx4 := HX3.out.only hon8 hz3 (by omega)
  have HX4 := Lib.hid hx4
  have HT := Lib.hid ht8
  have HI := Lib.hid hi8
  have HR8 := Lib.hid hr8
  have HOK := Lib.hid hok8
  have HO8 := Lib.hid ((Only.of_below (g := g) HB3.out).trans (hon8.mono HB3.out.size))
  have f0 := hx4.free 0
  have f1 := hx4.free 1
  have f2 := hx4.free 2
  have d0 := hx4.cell (i := 0) rfl
  have d1 := hx4.cell (i := 1) rfl
  have d2 := hx4.cell (i := 2) rfl
  clear hx4 ht8 hi8 hr8 hok8 hon8 HS HX3 HB3
  go_wp2_with fail
  have r7 := ((HX4.out.put 0 (.int .i64 o8)).put 1 (.int .i64 n8)).put 2 (.slice A8 k8.len c8)
  have t0 := r7.cell (i := 0) rfl
  have t1 := r7.cell (i := 1) rfl
  have t2 := r7.cell (i := 2) rfl
  refine bodyPost_ret (v := .agg #[.int .i64 o8, .int .i64 n8, .slice A8 k8.len c8]) ?_ rfl ⟨o8, n8, k8, A8, c8, bl8, p8, rfl, HI.out, (HT.out.keep fun z hz => ?_).lower (Nat.le_of_lt hz3), hs8, ((Row.apart HR8.out (by dsimp only; omega) _).apart (by dsimp only; omega) _).apart (by dsimp only; omega) _, HOK.out, ((HO8.out.set (.inr (Nat.le_refl _)) _).set (.inr (Nat.le_refl _)) _).set (.inr (Nat.le_refl _)) _⟩
  · simp [results, Tryz.f17, go_sem, t0, t1, t2]
  · have hz1 := (HT.out.lt z hz).1
    have hz2 : z ≠ w.heap.size := by omega
    rw [Below.heap_setCell _ _ _ z hz2, Below.heap_setCell _ _ _ z hz2, Below.heap_setCell _ _ _ z hz2]
end Go.Proofs.YtpknegneogdmfaaGreat

namespace Go.Proofs.YtpknegneogdmfaaGreat
open Go.RowKit Go.Shelf
set_option maxRecDepth 100000

/-- A library and an expression were drawn. -/
def Case2Post (w : World) (e : Ending) (w' : World) : Prop :=
  ∃ (ds : List De) (X : Option Addr) (c : Nat) (op n : Int) (k : Fo) (Y : Option Addr) (cy : Nat) (bl : List Nat), e = .returned (.tuple #[.slice X ds.length c, .agg #[.int .i64 op, .int .i64 n, .slice Y k.len cy]]) ∧
    (LiesD w' w.heap.size w'.heap.size X ds ∧ ds.length ≤ c ∧ c ≤ maxLen ∧ ds.length ≤ 100 ∧ sizeD ds ≤ 1048576) ∧ (I64 op ∧ I64 n) ∧ Tree w' w.heap.size (.slice Y k.len cy) k bl ∧ k.size ≤ 1000000 ∧ Below w.heap.size w w'

/-- The end: both stand in memory, the expression is stored into the result's box. -/
theorem case2_end {w V : World} {ds : List De} {X : Option Addr} {c : Nat} {op n : Int} {k : Fo} {Y : Option Addr} {cy : Nat} {bl : List Nat} (hd : LiesD V (w.heap.size + 1) V.heap.size X ds) (h1 : ds.length ≤ c) (h2 : c ≤ maxLen) (h3 : ds.length ≤ 100) (h4 : sizeD ds ≤ 1048576) (hi : I64 op ∧ I64 n)
    (ht : Tree V (w.heap.size + 1) (.slice Y k.len cy) k bl) (hk : k.size ≤ 1000000) (hb : Below w.heap.size w V) (u0 u1 u2 : Value) :
    Case2Post w (.returned (.tuple #[.slice X ds.length c, .agg #[.int .i64 op, .int .i64 n, .slice Y k.len cy]])) (((V.setCell ⟨w.heap.size, 0, none⟩ u0).setCell ⟨w.heap.size, 1, none⟩ u1).setCell ⟨w.heap.size, 2, none⟩ u2) := by
  refine ⟨ds, X, c, op, n, k, Y, cy, bl, rfl, ⟨hd.keep (Nat.le_succ _) (by simp [World.setCell]) fun q h1 h2 => ?_, h1, h2, h3, h4⟩, hi, (ht.keep fun z hz => ?_).lower (Nat.le_succ _), hk, ((hb.setCell (Nat.le_refl _) _).setCell (Nat.le_refl _) _).setCell (Nat.le_refl _) _⟩
  · have hq : q.block ≠ w.heap.size := by omega
    refine World.cell?_of_block ?_
    rw [Below.heap_setCell _ _ _ _ hq, Below.heap_setCell _ _ _ _ hq, Below.heap_setCell _ _ _ _ hq]
  · have hz1 := (ht.lt z hz).1
    have hz2 : z ≠ w.heap.size := by omega
    rw [Below.heap_setCell _ _ _ z hz2, Below.heap_setCell _ _ _ z hz2, Below.heap_setCell _ _ _ z hz2]

end Go.Proofs.YtpknegneogdmfaaGreat

namespace Go.Proofs.YtpknegneogdmfaaGreat
open Go.RowKit Go.Shelf
set_option maxRecDepth 100000

end Go.Proofs.YtpknegneogdmfaaGreat

namespace Go.Proofs.YtpknegneogdmfaaGreat
open Go.RowKit Go.Shelf
set_option maxRecDepth 100000

end Go.Proofs.YtpknegneogdmfaaGreat
