/-
  slices.Concat of a list of lists of numbers, whatever its length.
-/
import Derived.Test.YtdpiklnadhpjjaaSs
import Derived.Test.YtdpiklnadhpjjaaFresh
import Derived.Lib.AppendZeros
import Derived.Lib.Walk
namespace Go.Proofs.Ytdpiklnadhpjjaa
open Go.RowKit Go.Shelf
set_option maxRecDepth 100000

/-- Grow makes room in a new row. -/
def GrowsPost (w : World) (e : Ending) (w' : World) : Prop := ∃ v, e = .returned v ∧ w'.ownsRow w.heap.size 3 1 v 0 [] ∧ Below w.heap.size w w'

set_option maxHeartbeats 1000000 in
theorem grows_any (n : Nat) (w : World) (hn0 : 0 < n) (hn : n ≤ 1048576) :
    Calls Try.prog 50 #[.slice none 0 0, .int .i64 (n : Int)] w (GrowsPost w) := by
  obtain ⟨iT, hiT, hiz0, hiz1, hiz2⟩ := info_parts (show (Try.prog.info? 3).map (fun i => (i.zero, i.size, i.bytes)) = some (some (.int .i64 0), 1, 8) by kernel_rfl)
  have hrz := fun ty => Lib.run_append_nil_zeros (P := Try.prog) w 34 3 ty 3 iT (.int .i64 0) .i64 .i64 Try.underlying34 Try.underlying3 hiT hiz0 n hn0 (by rw [hiz1]; decide) (by omega) (by rw [hiz2]; omega)
  have hGn := grownCap_ge w n 0 3
  have hG63 := grownCap_le_maxLen w n 0 3 (by unfold maxLen; omega)
  generalize grownCap w n 0 3 = G at hrz hGn hG63
  have HG := Lib.hid hG63
  have HN := Lib.hid hGn
  unfold maxLen at hG63
  have h0 : (Value.int IntKind.i64 0).cells = #[Value.int IntKind.i64 0] := rfl
  rw [h0] at hrz
  have HRZ := Lib.hid hrz
  have h1 : ¬ ((n : Int) < 0) := by omega
  have h2 : wrap64 (n : Int) = (n : Int) := by unfold wrap64; omega
  have h4 : (n : Int) > 0 := by omega
  clear hrz hiT hiz0 hiz1 hiz2
  go_enter Try.func50, Try.ntmps50
  go_wp2_with (at_builtin; refine Lib.wpList_append_run _ rfl _ _ _ _ rfl _ _ rfl rfl _ _ (HRZ.out _) ?_)
  all_goals
    go_ret
    refine ⟨_, rfl, ⟨rfl, .inr ⟨w.heap.size, G, _, rfl, Nat.le_refl _, heap_alloc_new _ _, Nat.zero_le _, HG.out, ?_, by simp⟩⟩, ((Below.refl _ _).drew).alloc (Nat.le_refl _) _⟩
    have hz : ∀ m : Nat, (Builtin.zeroCells #[Value.int .i64 0] m).size = m := fun m => by simp [Builtin.zeroCells]
    have := HN.out
    simp only [Array.size_append, hz]
    omega

theorem flat_step {zss : List (List Int)} {j : Nat} {zs : List Int} (h : zss[j]? = some zs) : (zss.take (j + 1)).flatten = (zss.take j).flatten ++ zs := by
  rw [List.take_add_one, h]
  simp
theorem flat_le : ∀ (zss : List (List Int)) (j : Nat), (zss.take j).flatten.length ≤ zss.flatten.length
  | [], j => by simp
  | z :: r, 0 => by simp
  | z :: r, j + 1 => by have := flat_le r j; simp only [List.take_succ_cons, List.flatten_cons, List.length_append]; omega

set_option maxHeartbeats 1000000 in
theorem concats_any (zss : List (List Int)) (A : Option Addr) (c : Nat) (w : World) (hl : LiesSS w 0 w.heap.size A zss) (hn : zss.length ≤ 1048576) (h0 : 0 < zss.flatten.length) (hmx : zss.flatten.length ≤ 1048576) :
    Calls Try.prog 40 #[.slice A zss.length c] w (ListPost zss.flatten w) := by
  have HL := Lib.hid hl
  clear hl
  go_enter Try.func40, Try.ntmps40
  go_wp2_with fail
  go_loopw [3, 11] (fun s i wr => ∃ (j : Nat), j ≤ zss.length ∧ i = .int .i64 (j : Int) ∧ s = .int .i64 (((zss.take j).flatten.length : Nat) : Int) ∧ Below w.heap.size w wr)
    (fun _ i _ => zss.length - (intOf i).toNat)
  case atStart => exact ⟨0, by omega, rfl, by simp, Below.refl _ _⟩
  case round =>
    obtain ⟨j, hj, rfl, rfl, hb⟩ := hrel
    by_cases hlt : j < zss.length
    · have e1 := List.getElem?_eq_getElem hlt
      generalize zss[j] = zs at e1
      obtain ⟨b, o, A', c', hA, _, hbb, g0, _⟩ := HL.out j zs e1
      have g1 := (hb.cell (p := ⟨b, o + j, none⟩) hbb).trans g0
      subst hA
      have hst := congrArg List.length (flat_step e1)
      rw [List.length_append] at hst
      have hle := flat_le zss (j + 1)
      rw [hst] at hle
      have HST := Lib.hid hst
      have HB := Lib.hid hb
      clear hst hb g0 e1
      generalize hs1 : (zss.take j).flatten.length = s1 at hle
      generalize hs2 : zs.length = s2 at hle g1
      have HE1 := Lib.hid hs1
      have HE2 := Lib.hid hs2
      clear hs1 hs2
      have hs3 : s1 + s2 ≤ 1048576 := by omega
      have hw3 : wrap64 ((s1 : Int) + (s2 : Int)) = ((s1 + s2 : Nat) : Int) := by unfold wrap64; omega
      have hw4 : ¬ (((s1 + s2 : Nat) : Int) < 0) := by omega
      go_wp2_with fail
      go_roundw
      case rel => exact ⟨j + 1, hlt, by go_num, by rw [HST.out, HE1.out, HE2.out, Int.natCast_add], HB.out⟩
      case measure => simp [intOf]; omega
    · have e9 : j = zss.length := by omega
      subst e9
      rw [List.take_length]
      have HB := Lib.hid hb
      generalize hs1 : zss.flatten.length = s1 at h0 hmx
      have HE1 := Lib.hid hs1
      clear hb hs1
      go_wp2_with fail
      refine (grows_any s1 wr h0 hmx).mono ?_
      rintro e w2 ⟨v, rfl, ho, hb2⟩
      have HO := Lib.hid (own_less ho HB.out.size)
      have HB2 := Lib.hid (HB.out.trans (hb2.mono HB.out.size))
      clear ho hb2
      go_wp2_with fail
      go_loopw [6, 27] (fun s i wr => ∃ (j : Nat), j ≤ zss.length ∧ i = .int .i64 (j : Int) ∧ wr.ownsRow w.heap.size 3 1 s (zss.take j).flatten.length ((zss.take j).flatten.map (Value.int .i64)) ∧ Below w.heap.size w wr)
        (fun _ i _ => zss.length - (intOf i).toNat)
      case atStart => exact ⟨0, by omega, rfl, by simpa using HO.out, HB2.out⟩
      case round =>
        clear HO HB2 HB
        obtain ⟨j, hj, rfl, ho, hb⟩ := hrel
        by_cases hlt : j < zss.length
        · have e1 := List.getElem?_eq_getElem hlt
          generalize zss[j] = zs at e1
          obtain ⟨b, o, A', c', hA, _, hbb, g0, hli⟩ := HL.out j zs e1
          have g1 := (hb.cell (p := ⟨b, o + j, none⟩) hbb).trans g0
          subst hA
          have hst := flat_step e1
          have hle := flat_le zss (j + 1)
          rw [hst, List.length_append] at hle
          have HST := Lib.hid hst
          obtain ⟨v2, w2, hrun, ho2, hg2, _⟩ := run_append_lies (c := c') ho (hli.up hb) (by have := HE1.out; omega) hb.size
          have HRUN := Lib.hid hrun
          have HO2 := Lib.hid ho2
          have HB2 := Lib.hid (Below.grown hb hg2 hb.size (fun g' hg' => (ho.lt g' hg').1))
          clear hst hb g0 hli hrun ho ho2 hg2 hle e1
          go_wp2_with (at_builtin; refine Lib.wpList_append_run _ rfl _ _ _ _ rfl _ _ rfl rfl _ _ HRUN.out ?_)
          go_roundw
          case rel =>
            refine ⟨j + 1, hlt, by go_num, ?_, HB2.out⟩
            rw [HST.out, List.length_append, List.map_append]
            exact HO2.out
          case measure => simp [intOf]; omega
        · have e9 : j = zss.length := by omega
          subst e9
          rw [List.take_length] at ho
          have HO := Lib.hid ho
          have HB := Lib.hid hb
          clear ho hb
          go_wp2_with fail
          go_ret
          exact ⟨_, rfl, HO.out, HB.out⟩
end Go.Proofs.Ytdpiklnadhpjjaa
