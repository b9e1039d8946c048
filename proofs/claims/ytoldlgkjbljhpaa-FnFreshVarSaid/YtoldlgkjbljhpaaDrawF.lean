/-
  spec.DrawFreshVar; laws.amIn.
-/
import Derived.Test.YtoldlgkjbljhpaaDrawS
import Derived.Test.YtoldlgkjbljhpaaFreshD
namespace Go.Proofs.Ytoldlgkjbljhpaa
open Go.RowKit Go.Shelf
set_option maxRecDepth 100000

theorem own_only {w w' : World} {base : Nat} {e : TypeId} {size : Nat} {v : Value} {n g : Nat} {xs : List Value} (h : w.ownsRow base e size v n xs) (hon : Only g w.heap.size w w') (hg : g < base) : w'.ownsRow base e size v n xs := by
  refine ⟨h.1, ?_⟩
  rcases h.2 with h | ⟨k, cap, cur, h1, h2, h3, h4⟩
  · exact .inl h
  · exact .inr ⟨k, cap, cur, h1, h2, (hon.block k (Array.getElem?_eq_some_iff.1 h3).1 (by omega)).trans h3, h4⟩

set_option maxHeartbeats 2000000 in
theorem draw_any (A : Option Addr) (bc : Nat) (bs : List Nat) (w : World) (hB : LiesY w 0 w.heap.size A bs) (hl : bs.length ≤ bc) (hc : bc ≤ maxLen) :
    Calls Try.prog 5 #[.slice A bs.length bc] w fun e w' => ∃ (v : Value) (zs : List Int), zs.length ≤ 9 ∧ (∀ x ∈ zs, I64 x) ∧ e = .returned v ∧
      w'.ownsRow (w.heap.size + 1) 3 1 v zs.length (zs.map (Value.int .i64)) ∧ Below w.heap.size w w' := by
  go_enter Try.func5, Try.ntmps5
  go_wp2_with fail
  refine (open_any A bc bs w hB hl hc).mono ?_
  rintro e w1 ⟨bs2, hl2, rfl, hB1, hr1, hb1, hz1⟩
  have hr2 := hr1.alloc (Obj.cells #[] 3)
  have hb2 : Below w.heap.size w (w1.alloc (Obj.cells #[] 3)) := hb1.alloc hb1.size _
  have hB2 : LiesY (w1.alloc (Obj.cells #[] 3)) 0 w.heap.size A bs2 := hB1.below ((Below.refl _ _).alloc hb1.size _)
  have own2 : (w1.alloc (Obj.cells #[] 3)).ownsRow (w.heap.size + 1) 3 1 (.slice (some ⟨w1.heap.size, 0, none⟩) 0 0) ([] : List Int).length (([] : List Int).map (Value.int .i64)) :=
    ⟨rfl, .inr ⟨w1.heap.size, 0, #[], rfl, hz1, heap_alloc_new _ _, Nat.le_refl _, by decide, rfl, rfl⟩⟩
  have hs2 : w1.heap.size < (w1.alloc (Obj.cells #[] 3)).heap.size := by simp
  have HC := Lib.hid (pick_any w.heap.size w.heap.size A bc bs2 0 10 _ hr2 hB2 (Nat.le_refl _) hl2 (by decide) (by decide) (by decide))
  have HB2 := Lib.hid hb2
  have HY2 := Lib.hid hB2
  have HO2 := Lib.hid own2
  clear hr1 hb1 hB1 hr2 hb2 hB2 own2 hB
  go_wp2_with fail
  refine HC.out.mono ?_
  rintro e w3 ⟨x, hx, rfl, hr3, hon3⟩
  have hb3 : Below w.heap.size w w3 := HB2.out.trans ((hon3.mono HB2.out.size).below (Nat.le_refl _))
  have hY3 : LiesY w3 0 w.heap.size A bs2 := HY2.out.below ((hon3.mono HB2.out.size).below (Nat.le_refl _))
  have hO3 := own_only HO2.out hon3 (Nat.lt_succ_self _)
  clear hon3 HB2 HY2 HO2 HC hs2
  go_wp2_with fail
  go_loopw [4, 5] (fun v i wr => ∃ (j p : Nat) (zs : List Int), i = .int .i64 (j : Int) ∧ zs.length + j ≤ 9 ∧ p + j ≤ 10 ∧ (∀ x ∈ zs, I64 x) ∧ wr.ownsRow (w.heap.size + 1) 3 1 v zs.length (zs.map (Value.int .i64)) ∧
      Row wr w.heap.size 63 #[.slice A bs2.length bc, .int .i64 (p : Int)] ∧ LiesY wr 0 w.heap.size A bs2 ∧ Below w.heap.size w wr)
    (fun _ i _ => (intOf i).toNat)
  case atStart => exact ⟨x, 1, [], rfl, by simp; omega, by omega, fun x h => by simp at h, hO3, hr3, hY3, hb3⟩
  case round =>
    clear hb3 hY3 hO3 hr3
    obtain ⟨j, p, zs, rfl, hzj, hpj, hzi, hown, hr, hY, hb⟩ := hrel
    by_cases hj : 0 < j
    · have hr4 := hr.alloc (Obj.cells #[.int .i64 0, .int .i64 1, .int .i64 2, .int .i64 3, .int .i64 4, .int .i64 5, .int .i64 6, .int .i64 7, .int .i64 (-1)] 3)
      have hb4 : Below w.heap.size w (wr.alloc (Obj.cells #[.int .i64 0, .int .i64 1, .int .i64 2, .int .i64 3, .int .i64 4, .int .i64 5, .int .i64 6, .int .i64 7, .int .i64 (-1)] 3)) := hb.alloc hb.size _
      have hY4 := hY.below ((Below.refl w.heap.size wr).alloc hb.size (Obj.cells #[.int .i64 0, .int .i64 1, .int .i64 2, .int .i64 3, .int .i64 4, .int .i64 5, .int .i64 6, .int .i64 7, .int .i64 (-1)] 3))
      have hO4 := hown.alloc (Obj.cells #[.int .i64 0, .int .i64 1, .int .i64 2, .int .i64 3, .int .i64 4, .int .i64 5, .int .i64 6, .int .i64 7, .int .i64 (-1)] 3)
      have hL4 : LiesI (wr.alloc (Obj.cells #[.int .i64 0, .int .i64 1, .int .i64 2, .int .i64 3, .int .i64 4, .int .i64 5, .int .i64 6, .int .i64 7, .int .i64 (-1)] 3)) (w.heap.size + 1) (wr.alloc (Obj.cells #[.int .i64 0, .int .i64 1, .int .i64 2, .int .i64 3, .int .i64 4, .int .i64 5, .int .i64 6, .int .i64 7, .int .i64 (-1)] 3)).heap.size
          (some ⟨wr.heap.size, 0, none⟩) [0, 1, 2, 3, 4, 5, 6, 7, -1] := by
        have hrow := Row.fresh wr 3 #[.int .i64 0, .int .i64 1, .int .i64 2, .int .i64 3, .int .i64 4, .int .i64 5, .int .i64 6, .int .i64 7, .int .i64 (-1)]
        intro i y hy
        have hi : i < 9 := (List.getElem?_eq_some_iff.1 hy).1
        refine ⟨wr.heap.size, 0, rfl, hr.size, by simp, ?_, ?_⟩
        · have hm := List.mem_of_getElem? hy
          simp at hm
          unfold I64
          omega
        · rw [Nat.zero_add]
          refine hrow.cell (i := i) ?_
          rcases (show i = 0 ∨ i = 1 ∨ i = 2 ∨ i = 3 ∨ i = 4 ∨ i = 5 ∨ i = 6 ∨ i = 7 ∨ i = 8 by omega) with rfl | rfl | rfl | rfl | rfl | rfl | rfl | rfl | rfl
          all_goals
            simp at hy
            subst hy
            rfl
      have HN := Lib.hid (num_any w.heap.size w.heap.size A bc bs2 p (some ⟨wr.heap.size, 0, none⟩) 9 [0, 1, 2, 3, 4, 5, 6, 7, -1] _ hr4 hY4 (Nat.le_refl _) hl2 (by omega) hL4 (by decide) (by decide))
      have HB4 := Lib.hid hb4
      have HY4 := Lib.hid hY4
      have HO4 := Lib.hid hO4
      clear hr hb hY hown hr4 hb4 hY4 hO4 hL4
      go_wp2_with fail
      refine HN.out.mono ?_
      rintro e w5 ⟨y, hy, rfl, hr5, hon5⟩
      have HB5 := Lib.hid (HB4.out.trans ((hon5.mono HB4.out.size).below (Nat.le_refl _)))
      have HY5 := Lib.hid (HY4.out.below ((hon5.mono HB4.out.size).below (Nat.le_refl _)))
      have HO5 := Lib.hid (own_only HO4.out hon5 (Nat.lt_succ_self _))
      have HR5 := Lib.hid hr5
      clear hr5 hon5 HN HB4 HY4 HO4
      obtain ⟨iT, hiT, hiz0, hiz1, hiz2⟩ := info_parts (show (Try.prog.info? 3).map (fun i => (i.zero, i.size, i.bytes)) = some (some (.int .i64 0), 1, 8) by kernel_rfl)
      have HIT := Lib.hid hiT
      have HIZ0 := Lib.hid hiz0
      have HIZ1 := Lib.hid hiz1
      have HIZ2 := Lib.hid hiz2
      have C1 := Lib.hid (fresh_cells w5 3 #[Value.int .i64 y])
      have HC2 := Lib.hid (show ∀ u ∈ [Value.int .i64 y], u.oneCell' = true by intro u hu; rw [List.mem_singleton.1 hu]; rfl)
      have HC3 := Lib.hid (show zs.length + 1 ≤ maxLen by unfold maxLen; omega)
      have HC4 := Lib.hid (show (zs.length + 1) * 8 ≤ 140737488355328 by omega)
      have HC5 := Lib.hid (show w.heap.size + 1 ≤ (w5.alloc (.cells #[Value.int .i64 y] 3)).heap.size by have := HB5.out.size; rw [World.size_alloc]; omega)
      have HOA := Lib.hid (HO5.out.alloc (.cells #[Value.int .i64 y] 3))
      clear hiT hiz0 hiz1 hiz2
      go_wp2_with (at_builtin; refine wpList_append_own_at _ rfl _ _ 23 rfl (w.heap.size + 1) 3 iT _ 1 8 Try.underlying23 HIT.out HIZ0.out HIZ1.out HIZ2.out rfl (by decide) _ _ _ rfl HOA.out ⟨w5.heap.size, 0, none⟩ 1 1 [Value.int .i64 y] rfl rfl C1.out HC2.out HC3.out HC4.out HC5.out ?_; intro v' w' hown6 hgrow6 _ hblk)
      have hb6 : Below w.heap.size w w' := Below.grown (HB5.out.alloc HB5.out.size (.cells #[Value.int .i64 y] 3)) hgrow6 (Nat.le_trans (Nat.le_succ _) HC5.out) (fun g' hg' => Nat.le_trans (Nat.le_succ _) (own_at_least HO5.out hg'))
      have hr6 : Row w' w.heap.size 63 #[.slice A bs2.length bc, .int .i64 ((p + 1 : Nat) : Int)] := (hgrow6.block w.heap.size (HR5.out.alloc _).size (fun e => by have := own_at_least HO5.out e.symm; omega)).trans (HR5.out.alloc _)
      have hY6 : LiesY w' 0 w.heap.size A bs2 := by
        refine (HY5.out.below ((Below.refl w.heap.size w5).alloc HB5.out.size (.cells #[Value.int .i64 y] 3))).below ?_
        exact Below.grown (Below.refl _ _) hgrow6 (Nat.le_trans (Nat.le_succ _) HC5.out) (fun g' hg' => Nat.le_trans (Nat.le_succ _) (own_at_least HO5.out hg'))
      have HB6 := Lib.hid hb6
      have HR6 := Lib.hid hr6
      have HY6 := Lib.hid hY6
      have HO6 := Lib.hid hown6
      clear hown6 hgrow6 hblk hb6 hr6 hY6
      go_wp2_with fail
      go_roundw
      case rel =>
        refine ⟨j - 1, p + 1, zs ++ [y], by go_num, by simp; omega, by omega, ?_, ?_, HR6.out, HY6.out, HB6.out⟩
        · intro x hx
          rcases List.mem_append.1 hx with h | h
          · exact hzi x h
          · rw [List.mem_singleton.1 h]; exact hy
        · rw [List.length_append, List.map_append]
          exact HO6.out
      case measure => simp [intOf]; omega
    · have e9 : j = 0 := by omega
      subst e9
      have HO := Lib.hid hown
      clear hown hr hY
      go_wp2_with fail
      go_ret
      exact ⟨_, zs, by omega, hzi, rfl, HO.out, hb⟩

set_option maxHeartbeats 1000000 in
theorem amIn_any (zs : List Int) (A : Option Addr) (c : Nat) (n : Int) (w : World) (hl : LiesI w 0 w.heap.size A zs) (hlen : zs.length ≤ 4194304) :
    Calls Try.prog 8 #[.slice A zs.length c, .int .i64 n] w (Gives (.bool (decide (n ∈ zs))) w) := by
  go_enter Try.func8, Try.ntmps8
  go_wp2_with fail
  go_loopw [5] (fun i wr => ∃ (j : Nat), j ≤ zs.length ∧ i = .int .i64 j ∧ decide (n ∈ zs.take j) = false ∧ Below w.heap.size w wr)
    (fun i _ => zs.length - (intOf i).toNat)
  case atStart => exact ⟨0, by omega, rfl, by simp, Below.refl _ _⟩
  case round =>
    obtain ⟨j, hj, rfl, hno, hb⟩ := hrel
    by_cases hlt : j < zs.length
    · have e1 := List.getElem?_eq_getElem hlt
      generalize zs[j] = x at e1
      obtain ⟨b, o, hA, _, hbb, ix, g1⟩ := (hl.below hb) j x e1
      have hk := has_take e1 n
      rw [hno, Bool.false_or] at hk
      have hm : x ∈ zs := List.mem_of_getElem? e1
      subst hA
      by_cases hx : x = n
      · have HY := Lib.hid (show decide (n ∈ zs) = true by rw [← hx]; simpa using hm)
        clear hk hm hno e1
        go_wp2_with fail
        go_ret
        exact ⟨ret_bool HY.out.symm, hb⟩
      · have HN := Lib.hid (show decide (n ∈ zs.take (j + 1)) = false by rw [hk]; simpa using hx)
        clear hk hm hno e1
        go_wp2_with fail
        go_roundw
        case rel => exact ⟨j + 1, hlt, by go_num, HN.out, hb⟩
        case measure => simp [intOf]; omega
    · have e9 : j = zs.length := by omega
      subst e9
      rw [List.take_length] at hno
      have HN := Lib.hid hno
      clear hno
      go_wp2_with fail
      go_ret
      exact ⟨ret_bool HN.out.symm, hb⟩
end Go.Proofs.Ytoldlgkjbljhpaa
