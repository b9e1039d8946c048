/-
  spec.l2Arity: the arities of a library's functions by name.
  spec.l2Some: a client of a library is drawn.
  spec.l2Case: a library and a client of it are drawn.
  The draws of a library and a client: DrawCallsFit, DrawClientValid.
  DrawClientValid: what DrawCallsFit draws.
-/
import Derived.Test.YtknimjfmmnnelaaSomeS
import Derived.Test.YtknimjfmmnnelaaLibVD
import Derived.Test.YtknimjfmmnnelaaMutLib
import Derived.Test.YtknimjfmmnnelaaCaseS
namespace Go.Proofs.Ytknimjfmmnnelaa
open Go.RowKit Go.Shelf
set_option maxRecDepth 100000

def Ar2Post (w : World) (e : Ending) (w' : World) : Prop :=
  ∃ (v : Value) (ar : List Int), e = .returned v ∧ w'.ownsRow w.heap.size 3 1 v ar.length (ar.map (Value.int .i64)) ∧ ar.length = 8 ∧ (∀ x ∈ ar, I64 x) ∧ (∀ x ∈ ar, x ≤ 3) ∧ Below w.heap.size w w'

theorem all_snoc {P : Int → Prop} {zs : List Int} {y : Int} (h : ∀ x ∈ zs, P x) (hy : P y) : ∀ x ∈ zs ++ [y], P x := fun x hx => by
  rcases List.mem_append.1 hx with h1 | h1
  · exact h x h1
  · rw [List.mem_singleton.1 h1]; exact hy

set_option maxHeartbeats 2000000 in
theorem l2Arity_any (ds : List De) (X : Option Addr) (c : Nat) (w : World) (hl : LiesD w 0 w.heap.size X ds) (hn : ds.length ≤ 1048576) (h3 : ∀ d ∈ ds, d.ar ≤ 3) :
    Calls Try.prog 11 #[.slice X ds.length c] w (Ar2Post w) := by
  obtain ⟨W1, hW1⟩ : ∃ W1, W1 = w.alloc (Obj.cells #[] 3) := ⟨_, rfl⟩
  have hb1 : Below w.heap.size w W1 := by rw [hW1]; exact (Below.refl _ _).alloc (Nat.le_refl _) _
  have hx1 : Row W1 w.heap.size 3 #[] := by rw [hW1]; exact Row.fresh _ _ _
  have hO1 : W1.ownsRow w.heap.size 3 1 (.slice (some ⟨w.heap.size, 0, none⟩) 0 0) 0 [] := ⟨rfl, .inr ⟨w.heap.size, 0, #[], rfl, Nat.le_refl _, hx1, Nat.le_refl _, by decide, rfl, rfl⟩⟩
  have HL := Lib.hid hl
  clear hx1 hl
  go_enter Try.func11, Try.ntmps11
  go_upto_region 2 with fail
  rw [← hW1]
  clear hW1
  go_wp2_with fail
  go_loopw [3, 4] (fun v i wr => ∃ (j : Nat) (zs : List Int), i = .int .i64 (j : Int) ∧ zs.length = j ∧ j ≤ 8 ∧ (∀ x ∈ zs, I64 x) ∧ (∀ x ∈ zs, x ≤ 3) ∧ wr.ownsRow w.heap.size 3 1 v zs.length (zs.map (Value.int .i64)) ∧ Below w.heap.size w wr)
    (fun _ i _ => 8 - (intOf i).toNat)
  case atStart => exact ⟨0, [], rfl, rfl, by omega, fun x h => by simp at h, fun x h => by simp at h, hO1, hb1⟩
  case round =>
    clear hb1 hO1
    obtain ⟨j, zs, rfl, hzl, hj, hzi, hz3, hown, hb⟩ := hrel
    by_cases hlt : j < 8
    · have HP := Lib.hid (place_any ds X c wr (j : Int) (HL.out.up hb) hn)
      have HO := Lib.hid hown
      have HB := Lib.hid hb
      obtain ⟨iT, hiT, hiz0, hiz1, hiz2⟩ := info_parts (show (Try.prog.info? 3).map (fun i => (i.zero, i.size, i.bytes)) = some (some (.int .i64 0), 1, 8) by kernel_rfl)
      have HIT := Lib.hid hiT
      have HIZ0 := Lib.hid hiz0
      have HIZ1 := Lib.hid hiz1
      have HIZ2 := Lib.hid hiz2
      have HC3 := Lib.hid (show zs.length + 1 ≤ maxLen by unfold maxLen; omega)
      have HC4 := Lib.hid (show (zs.length + 1) * 8 ≤ 140737488355328 by omega)
      clear hiT hiz0 hiz1 hiz2 hown hb
      go_wp2_with fail
      refine HP.out.mono ?_
      rintro e w5 ⟨rfl, hb5⟩
      have hB5 := HB.out.trans (hb5.mono HB.out.size)
      have hO5 := own_at (w' := w5) HO.out fun g hg => hb5.block g (HO.out.lt g hg).2
      have HO5 := Lib.hid hO5
      have HB5 := Lib.hid hB5
      clear hb5 hB5 hO5 HP HO HB
      by_cases hp : plc (j : Int) ds < ds.length
      · obtain ⟨p, hpp⟩ : ∃ p, p = plc (j : Int) ds := ⟨_, rfl⟩
        have hv : plcI (j : Int) ds = (p : Int) := by unfold plcI; rw [if_pos hp, hpp]
        rw [hv]
        rw [← hpp] at hp
        obtain ⟨d, hd⟩ : ∃ d, ds[p]? = some d := ⟨_, List.getElem?_eq_getElem hp⟩
        obtain ⟨b, o, A', c', rfl, hbb, hbw, hf, g0, g1, _⟩ := (HL.out.up HB5.out) p d hd
        have hpi : (p : Int) < (ds.length : Int) := by omega
        have HF := Lib.hid (all_snoc hzi hf.2.1)
        have HG := Lib.hid (all_snoc hz3 (h3 d (List.mem_of_getElem? hd)))
        have C1 := Lib.hid (fresh_cells w5 3 #[Value.int .i64 d.ar])
        have HC2 := Lib.hid (show ∀ u ∈ [Value.int .i64 d.ar], u.oneCell' = true by intro u hu; rw [List.mem_singleton.1 hu]; rfl)
        have HC5 := Lib.hid (show w.heap.size ≤ (w5.alloc (.cells #[Value.int .i64 d.ar] 3)).heap.size by have := HB5.out.size; rw [World.size_alloc]; omega)
        have HOA := Lib.hid (HO5.out.alloc (.cells #[Value.int .i64 d.ar] 3))
        clear hpp hv hd hf g0
        go_wp2_with (at_builtin; refine wpList_append_own_at _ rfl _ _ 36 rfl w.heap.size 3 iT _ 1 8 Try.underlying36 HIT.out HIZ0.out HIZ1.out HIZ2.out rfl (by decide) _ _ _ rfl HOA.out ⟨w5.heap.size, 0, none⟩ 1 1 [Value.int .i64 d.ar] rfl rfl C1.out HC2.out HC3.out HC4.out HC5.out ?_; intro v' w' hown6 hgrow6 _ hblk)
        have HB6 := Lib.hid (show Below w.heap.size w w' from Below.grown (HB5.out.alloc HB5.out.size (.cells #[Value.int .i64 d.ar] 3)) hgrow6 HC5.out (fun g' hg' => own_at_least HO5.out hg'))
        have HO6 := Lib.hid hown6
        clear hown6 hgrow6 hblk g1
        go_wp2_with fail
        go_roundw
        case rel => exact ⟨j + 1, zs ++ [d.ar], by go_num, by simp; omega, by omega, HF.out, HG.out, by rw [List.length_append, List.map_append]; exact HO6.out, HB6.out⟩
        case measure => simp [intOf]; omega
      · have hv : plcI (j : Int) ds = -1 := by unfold plcI; rw [if_neg hp]
        rw [hv]
        have HF := Lib.hid (all_snoc (y := -1) hzi (by unfold I64; omega))
        have HG := Lib.hid (all_snoc (y := -1) hz3 (by omega))
        have C1 := Lib.hid (fresh_cells w5 3 #[Value.int .i64 (-1)])
        have HC2 := Lib.hid (show ∀ u ∈ [Value.int .i64 (-1)], u.oneCell' = true by intro u hu; rw [List.mem_singleton.1 hu]; rfl)
        have HC5 := Lib.hid (show w.heap.size ≤ (w5.alloc (.cells #[Value.int .i64 (-1)] 3)).heap.size by have := HB5.out.size; rw [World.size_alloc]; omega)
        have HOA := Lib.hid (HO5.out.alloc (.cells #[Value.int .i64 (-1)] 3))
        clear hv hp
        go_wp2_with (at_builtin; refine wpList_append_own_at _ rfl _ _ 36 rfl w.heap.size 3 iT _ 1 8 Try.underlying36 HIT.out HIZ0.out HIZ1.out HIZ2.out rfl (by decide) _ _ _ rfl HOA.out ⟨w5.heap.size, 0, none⟩ 1 1 [Value.int .i64 (-1)] rfl rfl C1.out HC2.out HC3.out HC4.out HC5.out ?_; intro v' w' hown6 hgrow6 _ hblk)
        have HB6 := Lib.hid (show Below w.heap.size w w' from Below.grown (HB5.out.alloc HB5.out.size (.cells #[Value.int .i64 (-1)] 3)) hgrow6 HC5.out (fun g' hg' => own_at_least HO5.out hg'))
        have HO6 := Lib.hid hown6
        clear hown6 hgrow6 hblk
        go_wp2_with fail
        go_roundw
        case rel => exact ⟨j + 1, zs ++ [-1], by go_num, by simp; omega, by omega, HF.out, HG.out, by rw [List.length_append, List.map_append]; exact HO6.out, HB6.out⟩
        case measure => simp [intOf]; omega
    · have e9 : j = 8 := by omega
      subst e9
      have HO := Lib.hid hown
      clear hown
      go_wp2_with fail
      go_ret
      exact ⟨_, zs, rfl, HO.out, hzl, hzi, hz3, hb⟩
end Go.Proofs.Ytknimjfmmnnelaa

namespace Go.Proofs.Ytknimjfmmnnelaa
open Go.RowKit Go.Shelf
set_option maxRecDepth 100000

end Go.Proofs.Ytknimjfmmnnelaa

namespace Go.Proofs.Ytknimjfmmnnelaa
open Go.RowKit Go.Shelf
set_option maxRecDepth 100000

/-- A library and an expression were drawn. -/
def Case2Post (w : World) (e : Ending) (w' : World) : Prop :=
  ∃ (ds : List De) (X : Option Addr) (c : Nat) (op n : Int) (k : Fo) (Y : Option Addr) (cy : Nat) (bl : List Nat), e = .returned (.tuple #[.slice X ds.length c, .agg #[.int .i64 op, .int .i64 n, .slice Y k.len cy]]) ∧
    (LiesD w' w.heap.size w'.heap.size X ds ∧ ds.length ≤ c ∧ c ≤ maxLen ∧ ds.length ≤ 100 ∧ sizeD ds ≤ 1048576) ∧ (I64 op ∧ I64 n) ∧ Tree w' w.heap.size (.slice Y k.len cy) k bl ∧ k.size ≤ 1000000 ∧ Below w.heap.size w w'

/-- The end: both stand in memory, the expression is stored into the result's box. -/
theorem case2_end {w V : World} {ds : List De} {X : Option Addr} {c : Nat} {op n : Int} {k : Fo} {Y : Option Addr} {cy : Nat} {bl : List Nat} (hd : LiesD V (w.heap.size + 1) V.heap.size X ds) (h1 : ds.length ≤ c) (h2 : c ≤ maxLen) (h3 : ds.length ≤ 100) (h4 : sizeD ds ≤ 1048576) (hi : I64 op ∧ I64 n)
    (ht : Tree V (w.heap.size + 1) (.slice Y k.len cy) k bl) (hk : k.size ≤ 1000000) (hb : Below w.heap.size w V) (u0 u1 u2 : Value) :
    Case2Post w (.returned (.tuple #[.slice X ds.length c, .agg #[.int .i64 op, .int .i64 n, .slice Y k.len cy]])) (((V.setCell ⟨w.heap.size, 0, none⟩ u0).setCell ⟨w.heap.size, 1, none⟩ u1).setCell ⟨w.heap.size, 2, none⟩ u2) := by
  refine ⟨ds, X, c, op, n, k, Y, cy, bl, rfl, ⟨hd.keep (Nat.le_succ _) (by simp [World.setCell]) fun q h1 h2 => ?_, h1, h2, h3, h4⟩, hi, (ht.keep fun z hz => ?_).lower (Nat.le_succ _), hk, ((hb.setCell (Nat.le_refl _) _).setCell (Nat.le_refl _) _).setCell (Nat.le_refl _) _⟩
  · have hq : q.block ≠ w.heap.size := by omega
    refine World.cell?_of_block ?_
    rw [Below.heap_setCell _ _ _ _ hq, Below.heap_setCell _ _ _ _ hq, Below.heap_setCell _ _ _ _ hq]
  · have hz1 := (ht.lt z hz).1
    have hz2 : z ≠ w.heap.size := by omega
    rw [Below.heap_setCell _ _ _ z hz2, Below.heap_setCell _ _ _ z hz2, Below.heap_setCell _ _ _ z hz2]

end Go.Proofs.Ytknimjfmmnnelaa

namespace Go.Proofs.Ytknimjfmmnnelaa
open Go.RowKit Go.Shelf
set_option maxRecDepth 100000

end Go.Proofs.Ytknimjfmmnnelaa

namespace Go.Proofs.Ytknimjfmmnnelaa
open Go.RowKit Go.Shelf
set_option maxRecDepth 100000

end Go.Proofs.Ytknimjfmmnnelaa
