/-
  The paths of all parts of a node, as data.
  impl.behind, impl.pathsIn, impl.PathsOf.
-/
import Derived.Test.YtdpiklnadhpjjaaCat
import Derived.Test.YtdpiklnadhpjjaaOpen
import Derived.Test.YtdpiklnadhpjjaaPath
namespace Go.Proofs.Ytdpiklnadhpjjaa
open Go.RowKit Go.Shelf
set_option maxRecDepth 100000

/-- The paths of the parts of the nodes of a list, the first of which has the index i. -/
def pathsK : Fo → Nat → List (List Int)
  | .nil, _ => []
  | .cons _ _ k r, i => ([] :: pathsK k 0).map (List.cons (i : Int)) ++ pathsK r (i + 1)
def pathsP (k : Fo) : List (List Int) := [] :: pathsK k 0
theorem pathsK_len : ∀ (f : Fo) (i : Nat), (pathsK f i).length = f.size
  | .nil, _ => rfl
  | .cons _ _ k r, i => by simp only [pathsK, List.length_append, List.length_map, List.length_cons, pathsK_len k 0, pathsK_len r (i + 1), Fo.size]; omega
theorem pathsP_len (k : Fo) : (pathsP k).length = k.size + 1 := by simp [pathsP, pathsK_len]
theorem pathsK_short : ∀ (f : Fo) (i : Nat) (zs : List Int), zs ∈ pathsK f i → zs.length ≤ f.size
  | .nil, _, zs, h => by simp [pathsK] at h
  | .cons _ _ k r, i, zs, h => by
    simp only [pathsK, List.mem_append, List.mem_map] at h
    simp only [Fo.size]
    rcases h with ⟨y, hy, rfl⟩ | h
    · rcases List.mem_cons.1 hy with rfl | hy
      · simp
      · have := pathsK_short k 0 y hy
        simp only [List.length_cons]; omega
    · have := pathsK_short r (i + 1) zs h
      omega
theorem pathsP_short {k : Fo} {zs : List Int} (h : zs ∈ pathsP k) : zs.length ≤ k.size := by
  rcases List.mem_cons.1 h with rfl | h
  · simp
  · exact pathsK_short k 0 zs h
theorem pathsK_drop {f : Fo} {j : Nat} {o m : Int} {k : Fo} (e : f.drop j = .cons o m k (f.drop (j + 1))) : pathsK (f.drop j) j = (pathsP k).map (List.cons (j : Int)) ++ pathsK (f.drop (j + 1)) (j + 1) := by rw [e]; rfl

/-- The post of a function that makes a list of lists. -/
def PathsPost (zss : List (List Int)) (w : World) (e : Ending) (w' : World) : Prop := ∃ A c bs, e = .returned (.slice A zss.length c) ∧ OwnSS w' w.heap.size (.slice A zss.length c) zss bs ∧ Below w.heap.size w w'

set_option maxHeartbeats 2000000 in
theorem behind_any (x : Int) (zss : List (List Int)) (A : Option Addr) (c : Nat) (w : World) (hx : I64 x) (hl : LiesSS w 0 w.heap.size A zss) (hn : zss.length ≤ 1000) (hs : ∀ zs, zs ∈ zss → zs.length ≤ 1000) :
    Calls Try.prog 25 #[.int .i64 x, .slice A zss.length c] w (PathsPost (zss.map (List.cons x)) w) := by
  have HL := Lib.hid hl
  have HSH := Lib.hid hs
  have HX := Lib.hid hx
  clear hl hs hx
  go_enter Try.func25, Try.ntmps25
  go_wp2_with fail
  go_loopw [5, 10] (fun v i wr => ∃ (j : Nat) (acc : List (List Int)) (bs : List Nat), j ≤ zss.length ∧ i = .int .i64 (j : Int) ∧ acc = (zss.take j).map (List.cons x) ∧ OwnSS wr w.heap.size v acc bs ∧ Below w.heap.size w wr)
    (fun _ i _ => zss.length - (intOf i).toNat)
  case atStart => exact ⟨0, [], [], Nat.zero_le _, rfl, by simp, OwnSS.nil w w.heap.size, Below.refl _ _⟩
  case round =>
    obtain ⟨j, acc, bs, hj, rfl, hacc, ho, hb⟩ := hrel
    obtain ⟨Av, cv, rfl, _, _⟩ := ho.slice
    have hal : acc.length ≤ 1000 := by rw [hacc]; simp; omega
    have HACC := Lib.hid hacc
    clear hacc
    by_cases hlt : j < zss.length
    · have e1 := List.getElem?_eq_getElem hlt
      generalize zss[j] = zs at e1
      obtain ⟨b, o, A1, c1, hA, _, hbb, g0, hli⟩ := HL.out j zs e1
      have g1 := (hb.cell (p := ⟨b, o + j, none⟩) hbb).trans g0
      subst hA
      have hzl := HSH.out zs (List.mem_of_getElem? e1)
      obtain ⟨wa, hwa⟩ : ∃ wa, wa = wr.alloc (.cells #[Value.int .i64 x] 3) := ⟨_, rfl⟩
      have hba : Below wr.heap.size wr wa := by rw [hwa]; exact (Below.refl _ _).alloc (Nat.le_refl _) _
      have hra : Row wa wr.heap.size 3 #[Value.int .i64 x] := by rw [hwa]; exact Row.fresh _ _ _
      obtain ⟨wb, hwb⟩ : ∃ wb, wb = wa.alloc (.cells #[Value.slice (some ⟨wr.heap.size, 0, none⟩) 1 1, Value.slice A1 zs.length c1] 34) := ⟨_, rfl⟩
      have hbb2 : Below wa.heap.size wa wb := by rw [hwb]; exact (Below.refl _ _).alloc (Nat.le_refl _) _
      have hrb : Row wb wa.heap.size 34 #[Value.slice (some ⟨wr.heap.size, 0, none⟩) 1 1, Value.slice A1 zs.length c1] := by rw [hwb]; exact Row.fresh _ _ _
      have hbab : Below wr.heap.size wr wb := hba.trans (hbb2.mono hba.size)
      have hwz : wa.heap.size = wr.heap.size + 1 := by rw [hwa]; simp
      have hlss : LiesSS wb 0 wb.heap.size (some ⟨wa.heap.size, 0, none⟩) [[x], zs] := by
        intro i ys hi
        match i with
        | 0 =>
          simp at hi
          subst hi
          refine ⟨wa.heap.size, 0, some ⟨wr.heap.size, 0, none⟩, 1, rfl, Nat.zero_le _, hrb.size, hrb.cell (i := 0) rfl, ?_⟩
          intro i y hy
          match i with
          | 0 =>
            simp at hy
            subst hy
            exact ⟨wr.heap.size, 0, rfl, Nat.zero_le _, Nat.lt_of_lt_of_le hra.size hbb2.size, HX.out, (hra.below hbb2 hra.size).cell (i := 0) rfl⟩
          | i + 1 => simp at hy
        | 1 =>
          simp at hi
          subst hi
          exact ⟨wa.heap.size, 0, A1, c1, rfl, Nat.zero_le _, hrb.size, hrb.cell (i := 1) rfl, (hli.up hb).up hbab⟩
        | i + 2 => simp at hi
      have e2 : [[x], zs].flatten = x :: zs := by simp
      have hc : Calls Try.prog 40 #[.slice (some ⟨wr.heap.size + 1, 0, none⟩) 2 2] wb (ListPost (x :: zs) wb) := by
        have := concats_any [[x], zs] (some ⟨wa.heap.size, 0, none⟩) 2 wb hlss (by simp) (by simp) (by simp; omega)
        rw [e2, hwz] at this
        exact this
      obtain ⟨ys, hys⟩ : ∃ ys, ys = x :: zs := ⟨_, rfl⟩
      rw [← hys] at hc
      have HC := Lib.hid hc
      clear hc
      have HI := Lib.hid (show ∀ y ∈ ys, I64 y from fun y hy => by
        rw [hys] at hy
        rcases List.mem_cons.1 hy with rfl | hy
        · exact HX.out
        · obtain ⟨i, hi⟩ := List.mem_iff_getElem?.1 hy
          obtain ⟨_, _, _, _, _, h6, _⟩ := hli i y hi
          exact h6)
      have HO := Lib.hid (ho.over hbab)
      have HB := Lib.hid (hb.trans (hbab.mono hb.size))
      have HZB := Lib.hid (show ∀ b ∈ bs, b < wb.heap.size from fun b hbm => Nat.lt_of_lt_of_le (ho.lt b hbm).2 hbab.size)
      have HE1 := Lib.hid e1
      have HYS := Lib.hid hys
      clear hys e1 g0 hli ho hb hba hbb2 hra hrb hbab hlss e2
      go_upto_region 5 with fail
      go_wp2_with fail
      rw [← hwa, ← hwb]
      refine HC.out.mono ?_
      rintro e w5 ⟨v5, rfl, ho5, hb5⟩
      obtain ⟨A5, c5, rfl, _⟩ := own_ints ho5 HI.out
      have hbs : ∀ z, z ∈ bs → z ∈ blkOf A5 → False := fun z h1 h2 => by
        have := HZB.out z h1
        have := (blk_lt ho5 (by rw [blkV_slice]; exact h2)).1
        omega
      obtain ⟨A7, c7, w7, bs7, hrun, ho7, hg7, hin7, _⟩ := (HO.out.over hb5).push_run (own_less ho5 HB.out.size) HI.out hbs (by omega) (Nat.le_trans HB.out.size hb5.size)
      have HRUN := Lib.hid (hrun 28)
      have HO7 := Lib.hid ho7
      have HB7 := Lib.hid (Below.grown (HB.out.trans (hb5.mono HB.out.size)) hg7 (Nat.le_trans HB.out.size hb5.size) (fun z hz => (HO.out.lt z (HO.out.own z hz)).1))
      clear HC ho5 hb5 hbs hrun ho7 hg7 hin7 hwa hwb g1
      go_wp2_with (at_builtin; refine wpList_append_ran rfl _ _ 28 rfl _ _ _ rfl rfl HRUN.out ?_)
      go_roundw
      case rel =>
        refine ⟨j + 1, acc ++ [ys], bs7, hlt, by go_num, ?_, ?_, HB7.out⟩
        · rw [List.take_add_one, HE1.out, HYS.out, HACC.out, List.map_append]
          rfl
        · exact HO7.out
      case measure => simp [intOf]; omega
    · have e9 : j = zss.length := by omega
      subst e9
      rw [List.take_length] at HACC
      have HO := Lib.hid ho
      have HB := Lib.hid hb
      clear ho hb
      go_wp2_with fail
      go_ret
      rw [← HACC.out]
      exact ⟨Av, cv, bs, rfl, HO.out, HB.out⟩
end Go.Proofs.Ytdpiklnadhpjjaa
