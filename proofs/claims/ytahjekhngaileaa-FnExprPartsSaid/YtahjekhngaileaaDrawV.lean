/-
  spec.DrawExprValid.
-/
import Derived.Test.YtahjekhngaileaaCaseS
import Derived.Deep.AppendLies
namespace Go.Proofs.Ytahjekhngaileaa
open Go.RowKit Go.Shelf
set_option maxRecDepth 100000

def ValidPost (w : World) (e : Ending) (w' : World) : Prop :=
  ∃ op n k X c v zs, e = .returned (.tuple #[.agg #[.int .i64 op, .int .i64 n, .slice X (Fo.len k) c], v]) ∧ Drawn w' w.heap.size op n k X c ∧ w'.ownsRow w.heap.size 3 1 v (List.length zs) (zs.map (Value.int .i64)) ∧ zs.length ≤ 4 ∧ (∀ x, x ∈ zs → I64 x) ∧ Below w.heap.size w w'

theorem dv_end {w V : World} {op n : Int} {k : Fo} {X : Option Addr} {c : Nat} {v : Value} {zs : List Int} {bl : List Nat} (ht : Tree V (w.heap.size + 1) (.slice X k.len c) k bl) (hi : I64 op ∧ I64 n) (hs : k.size ≤ 500300)
    (ho : V.ownsRow (w.heap.size + 1) 3 1 v zs.length (zs.map (Value.int .i64))) (hzl : zs.length ≤ 4) (hzi : ∀ x, x ∈ zs → I64 x) (hb : Below w.heap.size w V) :
    ValidPost w (.returned (.tuple #[.agg #[.int .i64 op, .int .i64 n, .slice X k.len c], v])) (((V.setCell ⟨w.heap.size, 0, none⟩ (.int .i64 op)).setCell ⟨w.heap.size, 1, none⟩ (.int .i64 n)).setCell ⟨w.heap.size, 2, none⟩ (.slice X k.len c)) := by
  refine ⟨op, n, k, X, c, v, zs, rfl, ⟨bl, hi, (ht.keep fun z hz => ?_).lower (Nat.le_succ _), hs⟩, own_at (own_lower ho (Nat.le_succ _)) fun z hz => ?_, hzl, hzi, ((hb.setCell (Nat.le_refl _) _).setCell (Nat.le_refl _) _).setCell (Nat.le_refl _) _⟩
  · have hz1 := (ht.lt z hz).1
    have hz2 : z ≠ w.heap.size := by omega
    rw [Below.heap_setCell _ _ _ z hz2, Below.heap_setCell _ _ _ z hz2, Below.heap_setCell _ _ _ z hz2]
  · have hz1 := own_at_least ho hz
    have hz2 : z ≠ w.heap.size := by omega
    rw [Below.heap_setCell _ _ _ z hz2, Below.heap_setCell _ _ _ z hz2, Below.heap_setCell _ _ _ z hz2]

set_option maxHeartbeats 4000000 in
theorem drawExprValid_any (A : Option Addr) (bc : Nat) (bs : List Nat) (w : World) (hB : LiesY w 0 w.heap.size A bs) (hl : bs.length ≤ bc) (hc : bc ≤ maxLen) :
    Calls Try.prog 10 #[.slice A bs.length bc] w (ValidPost w) := by
  obtain ⟨W1, hW1⟩ : ∃ W1, W1 = w.alloc (Obj.cells #[.int .i64 0, .int .i64 0, .slice none 0 0] 25) := ⟨_, rfl⟩
  have hb1 : Below w.heap.size w W1 := by rw [hW1]; exact (Below.refl _ _).alloc (Nat.le_refl _) _
  have hx1 : Row W1 w.heap.size 25 #[.int .i64 0, .int .i64 0, .slice none 0 0] := by rw [hW1]; exact Row.fresh _ _ _
  have hY1 : LiesY W1 0 W1.heap.size A bs := (hB.below hb1).keep (Nat.le_refl _) hb1.size fun _ _ _ => rfl
  have HC := Lib.hid (case2_any A bc bs W1 hY1 hl hc)
  have HY1 := Lib.hid hY1
  have HX1 := Lib.hid hx1
  have HB1 := Lib.hid hb1
  clear hb1 hx1 hB hY1
  go_enter Try.func10, Try.ntmps10
  go_upto_region 1 with fail
  rw [← hW1]
  clear hW1
  go_wp2_with fail
  refine HC.out.mono ?_
  rintro e w8 ⟨op, n, k, X, cx, v, zs, bl, rfl, ⟨hi, ht, hs⟩, hv, hvl, hvz, hb8, hdis⟩
  obtain ⟨W9, hW9⟩ : ∃ W9, W9 = w8.alloc (Obj.cells #[.int .i64 op, .int .i64 n, .slice X k.len cx] 25) := ⟨_, rfl⟩
  have ba : Below w8.heap.size w8 W9 := by rw [hW9]; exact (Below.refl _ _).alloc (Nat.le_refl _) _
  have hb9 := hb8.trans (ba.mono hb8.size)
  have HE9 := Lib.hid (show Row W9 w8.heap.size 25 #[.int .i64 op, .int .i64 n, .slice X k.len cx] by rw [hW9]; exact Row.fresh _ _ _)
  have HX9 := Lib.hid (HX1.out.below hb9 HX1.out.size)
  have HT9 := Lib.hid ((ht.over ba).lower (base' := w.heap.size + 1) HX1.out.size)
  have HO9 := Lib.hid (own_lower (base' := w.heap.size + 1) (own_below hv ba) HX1.out.size)
  have HVB := Lib.hid (show ∀ z, v.ownBlock = some z → w.heap.size + 1 ≤ z ∧ z < w8.heap.size from fun z hz => ⟨Nat.le_trans HX1.out.size (hv.lt z hz).1, (hv.lt z hz).2⟩)
  have HTB := Lib.hid (show ∀ z, z ∈ bl → z < W9.heap.size from fun z hz => Nat.lt_of_lt_of_le (ht.lt z hz).2 ba.size)
  have HB9 := Lib.hid (HB1.out.trans (hb9.mono HB1.out.size))
  have HCO := Lib.hid (open_any A bc bs W9 ((HY1.out.below hb9).keep (Nat.le_refl _) hb9.size fun _ _ _ => rfl) hl hc)
  have HI := Lib.hid hi
  have HS := Lib.hid hs
  have HVL := Lib.hid hvl
  have HVZ := Lib.hid hvz
  have HDIS := Lib.hid hdis
  have HW9 := Lib.hid HE9.out.size
  have HWW := Lib.hid (show w.heap.size < W1.heap.size ∧ W1.heap.size ≤ w8.heap.size from ⟨HX1.out.size, hb8.size⟩)
  clear hb9 hb8 ba ht hv hvl hvz hdis hi hs HX1 HB1 HC HY1
  go_upto_region 2 with fail
  rw [← hW9]
  clear hW9
  go_wp2_with fail
  refine HCO.out.mono ?_
  rintro e w10 ⟨bs2, hl2, rfl, hY10, hr10, hb10, hz10⟩
  have HP := Lib.hid (pick_v W9.heap.size W9.heap.size A bc bs2 0 12 w10 hr10 hY10 (Nat.le_refl _) hl2 (by decide) (by decide) (by decide))
  have HB10 := Lib.hid hb10
  have HY10 := Lib.hid hY10
  clear hY10 hr10 hb10 HCO
  go_wp2_with fail
  refine HP.out.mono ?_
  rintro e w11 ⟨rfl, hr11, hon11⟩
  obtain ⟨x, hx⟩ : ∃ x, x = pkL bs2 0 12 := ⟨_, rfl⟩
  rw [← hx]
  clear hx
  have hbz : Below W9.heap.size W9 w11 := HB10.out.trans ((hon11.mono HB10.out.size).below (Nat.le_refl _))
  have hxz := HX9.out.below hbz HX9.out.size
  have hez := HE9.out.below hbz HE9.out.size
  have HXZ := Lib.hid hxz
  have HR11 := Lib.hid hr11
  have HY11 := Lib.hid (show LiesY w11 0 W9.heap.size A bs2 from HY10.out.below ((hon11.mono HB10.out.size).below (Nat.le_refl _)))
  have HZ := Lib.hid hbz
  have f0 := hxz.free 0
  have f1 := hxz.free 1
  have f2 := hxz.free 2
  have d0 := hxz.cell (i := 0) rfl
  have d1 := hxz.cell (i := 1) rfl
  have d2 := hxz.cell (i := 2) rfl
  have q0 := hez.cell (i := 0) rfl
  have q1 := hez.cell (i := 1) rfl
  have q2 := hez.cell (i := 2) rfl
  clear hr11 hon11 hbz hxz hez HP
  by_cases hx0 : x = 0
  · have h0 : ((x : Int) == 0) = true := by simp; omega
    have g0 := (HXZ.out.alloc (Obj.cells #[] 3)).free 0
    have g1 := (HXZ.out.alloc (Obj.cells #[] 3)).free 1
    have g2 := (HXZ.out.alloc (Obj.cells #[] 3)).free 2
    have e0 := (HXZ.out.alloc (Obj.cells #[] 3)).cell (i := 0) rfl
    have e1 := (HXZ.out.alloc (Obj.cells #[] 3)).cell (i := 1) rfl
    have e2 := (HXZ.out.alloc (Obj.cells #[] 3)).cell (i := 2) rfl
    clear hx0
    go_wp2_with fail
    have bc := (Below.refl w11.heap.size w11).alloc (Nat.le_refl _) (Obj.cells #[] 3)
    have hbf := HZ.out.trans (bc.mono HZ.out.size)
    have r7 := (((HX9.out.below hbf HX9.out.size).put 0 (.int .i64 op)).put 1 (.int .i64 n)).put 2 (.slice X k.len cx)
    have t0 := r7.cell (i := 0) rfl
    have t1 := r7.cell (i := 1) rfl
    have t2 := r7.cell (i := 2) rfl
    refine bodyPost_ret (v := .tuple #[.agg #[.int .i64 op, .int .i64 n, .slice X k.len cx], .slice (some ⟨w11.heap.size, 0, none⟩) 0 0]) ?_ rfl (dv_end (zs := []) (HT9.out.over hbf) HI.out HS.out (own_empty (Row.fresh w11 3 #[]) ?_) (by simp) (by simp) (HB9.out.trans (hbf.mono HB9.out.size)))
    · simp [results, Try.f10, go_sem, t0, t1, t2]
    · have := HZ.out.size; have := HWW.out; have := HW9.out; omega
  have h0 : ((x : Int) == 0) = false := by simp; omega
  by_cases hx1 : x = 1
  · have h1 : ((x : Int) == 1) = true := by simp; omega
    clear hx0 hx1
    have bd : Below w11.heap.size w11 (w11.drew.alloc (Obj.cells #[.int .i64 8, .int .i64 (-1), .int .i64 7] 3)) := ((Below.refl w11.heap.size w11).drew).alloc (Nat.le_refl _) _
    have hbd := HZ.out.trans (bd.mono HZ.out.size)
    have HN := Lib.hid (num_v W9.heap.size W9.heap.size A bc bs2 1 (some ⟨w11.heap.size, 0, none⟩) 3 [8, -1, 7] (w11.drew.alloc (Obj.cells #[.int .i64 8, .int .i64 (-1), .int .i64 7] 3)) (Row.below HR11.out bd HR11.out.size) (HY11.out.below (bd.mono HZ.out.size)) (Nat.le_refl _) hl2 (by decide) (lies_new w11.drew (W9.heap.size + 1) [8, -1, 7] (by intro x hx; simp at hx; unfold I64; omega) HR11.out.size) (by decide) (by decide))
    have hed := HE9.out.below hbd HE9.out.size
    have p0 : w11.drew.cell? ⟨w8.heap.size, 0, none⟩ = some (.int .i64 op) := q0
    have p1 : w11.drew.cell? ⟨w8.heap.size, 1, none⟩ = some (.int .i64 n) := q1
    have p2 : w11.drew.cell? ⟨w8.heap.size, 2, none⟩ = some (.slice X k.len cx) := q2
    have hee : Row (w11.alloc (Obj.cells #[.int .i64 8, .int .i64 (-1), .int .i64 7] 3)) w8.heap.size 25 #[.int .i64 op, .int .i64 n, .slice X k.len cx] := hed
    have r0 := hee.cell (i := 0) rfl
    have r1 := hee.cell (i := 1) rfl
    have r2 := hee.cell (i := 2) rfl
    have hef : Row (w11.alloc (Obj.cells #[.int .i64 8, .int .i64 (-1), .int .i64 7] 3)).drew w8.heap.size 25 #[.int .i64 op, .int .i64 n, .slice X k.len cx] := hed
    have s0 := hef.cell (i := 0) rfl
    have s1 := hef.cell (i := 1) rfl
    have s2 := hef.cell (i := 2) rfl
    have HBD := Lib.hid hbd
    obtain ⟨iT, hiT, hiz0, hiz1, hiz2⟩ := info_parts (show (Try.prog.info? 3).map (fun i => (i.zero, i.size, i.bytes)) = some (some (.int .i64 0), 1, 8) by kernel_rfl)
    have HIT := Lib.hid hiT
    have HIZ0 := Lib.hid hiz0
    have HIZ1 := Lib.hid hiz1
    have HIZ2 := Lib.hid hiz2
    have HC3 := Lib.hid (show zs.length + 1 ≤ maxLen by have := HVL.out; unfold maxLen; omega)
    have HC4 := Lib.hid (show (zs.length + 1) * 8 ≤ 140737488355328 by have := HVL.out; omega)
    clear hiT hiz0 hiz1 hiz2 bd hbd hed hee hef d0 d1 d2 f0 f1 f2
    go_wp2_with fail
    go_region_law (first
      | (refine step_append_lies _ rfl (.tmp 23) (.tmp 27) 26 rfl (w.heap.size + 1) 3 iT _ 1 8 Try.underlying26 HIT.out HIZ0.out HIZ1.out HIZ2.out rfl (by decide) v zs.length (zs.map (Value.int .i64)) rfl HOA.out ⟨w5.heap.size, 0, none⟩ 1 1 [Value.int .i64 y] rfl rfl C1.out HC2.out (by decide) HC3.out HC4.out HC5.out _ rfl ?_
         intro g6 cap6 w6 hown6 hgrow6 _ _
         have hX6 := row_grown HXA.out hgrow6 (fun e => by have := HVB.out _ e.symm; omega)
         have hE6 := row_grown HEA.out hgrow6 (fun e => by have := HVB.out _ e.symm; omega)
         have f0 := hX6.free 0
         have f1 := hX6.free 1
         have f2 := hX6.free 2
         have d0 := hX6.cell (i := 0) rfl
         have d1 := hX6.cell (i := 1) rfl
         have d2 := hX6.cell (i := 2) rfl
         have u0 := hE6.cell (i := 0) rfl
         have u1 := hE6.cell (i := 1) rfl
         have u2 := hE6.cell (i := 2) rfl
         have HX6 := Lib.hid hX6
         have HO6 := Lib.hid hown6
         have HG6 := Lib.hid hgrow6
         clear hown6 hgrow6 hX6 hE6)
      | (refine step_call (f := 33) rfl (by kernel_rfl) HN.out ?_
         rintro e w5 ⟨y, -, hyi, rfl, hr5, hon5⟩
         refine ⟨_, rfl, ?_⟩
         have hb5 : Below W9.heap.size W9 w5 := HBD.out.trans ((hon5.mono HBD.out.size).below (Nat.le_refl _))
         have b6 := (Below.refl w5.heap.size w5).alloc (Nat.le_refl _) (Obj.cells #[.int .i64 y] 3)
         have hb6 := hb5.trans (b6.mono hb5.size)
         have hE5 := HE9.out.below hb5 HE9.out.size
         have hEA := HE9.out.below hb6 HE9.out.size
         have y0 := hE5.cell (i := 0) rfl
         have y1 := hE5.cell (i := 1) rfl
         have y2 := hE5.cell (i := 2) rfl
         have z0 := hEA.cell (i := 0) rfl
         have z1 := hEA.cell (i := 1) rfl
         have z2 := hEA.cell (i := 2) rfl
         have HEA := Lib.hid hEA
         have HXA := Lib.hid (HX9.out.below hb6 HX9.out.size)
         have HOA := Lib.hid (own_below HO9.out hb6)
         have HBA := Lib.hid hb6
         have C1 := Lib.hid (fresh_cells w5 3 #[Value.int .i64 y])
         have HC2 := Lib.hid (show ∀ u ∈ [Value.int .i64 y], u.oneCell' = true by intro u hu; rw [List.mem_singleton.1 hu]; rfl)
         have HC5 := Lib.hid (show w.heap.size + 1 ≤ (w5.alloc (.cells #[Value.int .i64 y] 3)).heap.size by have := hb6.size; have := HWW.out; have := HW9.out; omega)
         have HYI := Lib.hid hyi
         clear hb5 b6 hb6 hE5 hEA hr5 hon5 hyi))
    all_goals
      go_wp2_with fail
      have r7 := ((HX6.out.put 0 (.int .i64 op)).put 1 (.int .i64 n)).put 2 (.slice X k.len cx)
      have t0 := r7.cell (i := 0) rfl
      have t1 := r7.cell (i := 1) rfl
      have t2 := r7.cell (i := 2) rfl
      have hta := HT9.out.over HBA.out
      refine bodyPost_ret (v := .tuple #[.agg #[.int .i64 op, .int .i64 n, .slice X k.len cx], .slice (some ⟨g6, 0, none⟩) (zs.length + 1) cap6]) ?_ rfl (dv_end (zs := zs ++ [y]) (bl := bl) (hta.keep fun z hz => HG6.out.block z (hta.lt z hz).2 fun e => HDIS.out z e.symm hz) HI.out HS.out ?_ ?_ ?_ (Below.grown (HB9.out.trans (HBA.out.mono HB9.out.size)) HG6.out ?_ fun z hz => ?_))
      · simp [results, Try.f10, go_sem, t0, t1, t2]
      · have := HO6.out
        simpa using this
      · have := HVL.out; simp; omega
      · intro z hz
        rcases List.mem_append.1 hz with h | h
        · exact HVZ.out z h
        · rw [List.mem_singleton.1 h]; exact HYI.out
      · have := HC5.out; omega
      · have := HVB.out z hz; omega
  have h1 : ((x : Int) == 1) = false := by simp; omega
  clear hx0 hx1
  go_wp2_with fail
  have r7 := ((HXZ.out.put 0 (.int .i64 op)).put 1 (.int .i64 n)).put 2 (.slice X k.len cx)
  have t0 := r7.cell (i := 0) rfl
  have t1 := r7.cell (i := 1) rfl
  have t2 := r7.cell (i := 2) rfl
  refine bodyPost_ret (v := .tuple #[.agg #[.int .i64 op, .int .i64 n, .slice X k.len cx], v]) ?_ rfl (dv_end (HT9.out.over HZ.out) HI.out HS.out (own_below HO9.out HZ.out) (by have := HVL.out; omega) HVZ.out (HB9.out.trans (HZ.out.mono HB9.out.size)))
  simp [results, Try.f10, go_sem, t0, t1, t2]
end Go.Proofs.Ytahjekhngaileaa
