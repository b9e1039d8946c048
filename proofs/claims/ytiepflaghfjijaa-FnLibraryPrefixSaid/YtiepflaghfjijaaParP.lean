/-
  Reading operands in front of bytes: spec.l1Parts.
-/
import Derived.Test.YtiepflaghfjijaaParN
import Derived.Test.YtiepflaghfjijaaReadY
import Derived.Deep.CutRange
namespace Go.Proofs.Ytiepflaghfjijaa
open Go.RowKit
set_option maxRecDepth 100000

def PartsPost (r : Option (Fo × Nat)) (w : World) (e : Ending) (w' : World) : Prop :=
  ∃ (f : Fo) (A : Option Addr) (c : Nat) (bs : List Nat) (q : Int), e = .returned (.tuple #[.slice A f.len c, .int .i64 q]) ∧ Tree w' w.heap.size (.slice A f.len c) f bs ∧ Below w.heap.size w w' ∧
    (match r with
     | some (f', p) => f = f' ∧ q = (p : Int)
     | none => q = -1)
def combF (pre : Fo) : Option (Fo × Nat) → Option (Fo × Nat)
  | none => none
  | some (r, q) => some (pre.app r, q)

set_option maxHeartbeats 2000000 in
theorem l1Parts_any (s : List UInt8) (hs : s.length ≤ 1000000000000) (d : Nat) (ih : ParC s d) (cs : List UInt8) (hcs : cs.length ≤ 100) (C : Option Addr) (cc : Nat) (i : Nat) (hi : i ≤ s.length + 3) (w : World) (hc : LiesY w 0 w.heap.size C (cs.map UInt8.toNat)) :
    Calls Try.prog 69 #[.string ⟨s.toArray⟩, .int .i64 (i : Int), .slice C cs.length cc, .int .i64 (d : Int)] w (PartsPost (partsAt s (parseAt s d) cs i) w) := by
  have ht0 : Tree (w.alloc (Obj.cells #[] 26)) w.heap.size (.slice (some ⟨w.heap.size, 0, none⟩) 0 0) .nil [w.heap.size] :=
    ⟨[], [], ⟨rfl, .inr ⟨w.heap.size, 0, #[], rfl, Nat.le_refl _, Row.fresh w 26 #[], Nat.le_refl _, by decide, rfl, rfl⟩⟩, ⟨rfl, rfl⟩, rfl, by simp⟩
  have HT0 := Lib.hid ht0
  have HB0 := Lib.hid (show Below w.heap.size w (w.alloc (Obj.cells #[] 26)) from (Below.refl _ _).alloc (Nat.le_refl _) _)
  have HIH := Lib.hid ih
  have HC := Lib.hid hc
  obtain ⟨r, hr⟩ : ∃ r, r = partsAt s (parseAt s d) cs i := ⟨_, rfl⟩
  rw [← hr]
  have HX := Lib.hid hr
  clear ht0 ih hc hr
  go_enter Try.func69, Try.ntmps69
  go_wp2_with fail
  go_loopw [1, 10, 11] (fun a v i wr => ∃ (j p : Nat) (pre : Fo) (A1 : Option Addr) (c1 : Nat) (bs : List Nat), j ≤ cs.length ∧ i = .int .i64 (j : Int) ∧ a = .int .i64 (p : Int) ∧ v = .slice A1 pre.len c1 ∧ pre.len = j ∧ p ≤ s.length + 3 ∧
      r = combF pre (partsAt s (parseAt s d) (cs.drop j) p) ∧ Tree wr w.heap.size (.slice A1 pre.len c1) pre bs ∧ Below w.heap.size w wr) (fun _ _ i _ => cs.length - (intOf i).toNat)
  case atStart => exact ⟨0, i, .nil, _, _, _, Nat.zero_le _, rfl, rfl, rfl, rfl, hi, by rw [HX.out]; simp only [List.drop_zero, combF, Fo.app]; split <;> simp_all, HT0.out, HB0.out⟩
  case round =>
    clear HT0 HB0 HX
    obtain ⟨j, p, pre, A1, c1', bs, hj, rfl, rfl, rfl, hpl, hp, hpre, ht, hb⟩ := hrel
    by_cases hlt : j < cs.length
    · have ec := List.getElem?_eq_getElem hlt
      generalize cs[j] = ch at ec
      have hdr : cs.drop j = ch :: cs.drop (j + 1) := by
        obtain ⟨h1, h2⟩ := List.getElem?_eq_some_iff.1 ec
        rw [← h2]; exact List.drop_eq_getElem_cons h1
      obtain ⟨zb, zo, hC, _, hzb, _, hzc⟩ := HC.out j ch.toNat (by rw [List.getElem?_map, ec]; rfl)
      subst hC
      have HCP := Lib.hid (HIH.out p wr hp)
      have HT := Lib.hid ht
      have HB := Lib.hid hb
      have HPRE := Lib.hid hpre
      have HPL := Lib.hid hpl
      have HDR := Lib.hid hdr
      have HZC := Lib.hid (And.intro hzb ((hb.cell (p := ⟨zb, zo + j, none⟩) hzb).trans hzc))
      clear ht hb hpre hdr hzc
      go_wp2_with fail
      refine HCP.out.mono ?_
      rintro e w1 ⟨y1, Y1, c1, b1, q1, rfl, hi1, ht1, hb1, hres1⟩
      obtain ⟨W1, hW1⟩ : ∃ W1, W1 = w1.alloc (Obj.cells #[.int .i64 y1.op, .int .i64 y1.n, .slice Y1 y1.k.len c1] 26) := ⟨_, rfl⟩
      have hbw1 : Below w1.heap.size w1 W1 := by rw [hW1]; exact (Below.refl _ _).alloc (Nat.le_refl _) _
      have hb01 := hb1.trans (hbw1.mono hb1.size)
      have HX1 := Lib.hid (show Row W1 w1.heap.size 26 #[.int .i64 y1.op, .int .i64 y1.n, .slice Y1 y1.k.len c1] by rw [hW1]; exact Row.fresh _ _ _)
      have HT5 := Lib.hid (HT.out.over hb01)
      have HK5 := Lib.hid ((ht1.over hbw1).lower (base' := w.heap.size) HB.out.size)
      have HD5 := Lib.hid (show ∀ b, b ∈ bs → b ∈ b1 → False from fun q h1 h2 => by
        have e1 := (HT.out.lt q h1).2
        have e2 := (ht1.lt q h2).1
        omega)
      have HB5 := Lib.hid (HB.out.trans (hb01.mono HB.out.size))
      have qz : W1.cell? ⟨zb, zo + j, none⟩ = some (.int .u8 (ch.toNat : Int)) := (hb01.cell (p := ⟨zb, zo + j, none⟩) (Nat.lt_of_lt_of_le HZC.out.1 HB.out.size)).trans HZC.out.2
      have HI1 := Lib.hid hi1
      have HS1 := Lib.hid hres1
      have hpl2 : pre.len ≤ 1048576 := by omega
      clear hpl ht1 hb1 hbw1 hb01 hi1 hres1 HCP HT HB
      go_upto_region 6 with fail
      rw [← hW1]
      clear hW1
      cases hp1 : parseAt s d p with
      | none =>
        rw [hp1] at HS1
        have hq1 : q1 = -1 := HS1.out
        subst hq1
        have HF := Lib.hid (show r = none by rw [HPRE.out, HDR.out]; simp only [partsAt, hp1, combF])
        clear hp1
        go_wp2_with fail
        refine (l1At_any s (-1) ch W1).mono ?_
        rintro e w9 ⟨rfl, rfl⟩
        rw [atB_none]
        go_wp2_with fail
        go_ret2
        exact ⟨.nil, none, 0, [], _, rfl, Tree.none _ _, HB5.out, by rw [HF.out]⟩
      | some pr1 =>
        obtain ⟨y1', p1⟩ := pr1
        rw [hp1] at HS1
        obtain ⟨rfl, hq1⟩ : y1 = y1' ∧ q1 = (p1 : Int) := HS1.out
        subst hq1
        by_cases hch : s[p1]? = some ch
        rotate_left
        · have HF := Lib.hid (show r = none by rw [HPRE.out, HDR.out]; simp only [partsAt, hp1, combF]; rw [if_neg hch])
          have HA := Lib.hid (show atB s (p1 : Int) ch = false by rw [atB_nat, decide_eq_false hch])
          clear hp1 hch
          go_wp2_with fail
          refine (l1At_any s (p1 : Int) ch W1).mono ?_
          rintro e w9 ⟨rfl, rfl⟩
          rw [HA.out]
          go_wp2_with fail
          go_ret2
          exact ⟨.nil, none, 0, [], _, rfl, Tree.none _ _, HB5.out, by rw [HF.out]⟩
        · have hl1 := (List.getElem?_eq_some_iff.1 hch).1
          have HF := Lib.hid (show r = combF (pre.snoc y1.op y1.n y1.k) (partsAt s (parseAt s d) (cs.drop (j + 1)) (p1 + 1)) by
            rw [HPRE.out, HDR.out]
            simp only [partsAt, hp1]
            rw [if_pos hch]
            cases partsAt s (parseAt s d) (cs.drop (j + 1)) (p1 + 1) with
            | none => rfl
            | some x => obtain ⟨x1, x2⟩ := x; simp only [combF, Fo.snoc_app])
          have HA := Lib.hid (show atB s (p1 : Int) ch = true by rw [atB_nat, decide_eq_true hch])
          clear hp1 hch
          go_wp2_with fail
          refine (l1At_any s (p1 : Int) ch W1).mono ?_
          rintro e w9 ⟨rfl, rfl⟩
          rw [HA.out]
          have x0 := HX1.out.cell (i := 0) rfl
          have x1 := HX1.out.cell (i := 1) rfl
          have x2 := HX1.out.cell (i := 2) rfl
          go_wp2_with (at_builtin; refine wpList_push rfl _ _ rfl w.heap.size (.slice A1 pre.len c1') pre bs b1 y1.op y1.n y1.k Y1 c1 rfl rfl HT5.out HK5.out HI1.out HD5.out hpl2 HB5.out.size ?_; intro v6 w6 bs6 ht6 hg6 hin6; obtain ⟨A6, c6, rfl, hc61, hc62⟩ := ht6.slice; have HT6 := Lib.hid ht6; have HG6 := Lib.hid hg6; clear ht6 hg6 hin6 hc61 hc62)
          go_roundw
          case rel =>
            refine ⟨j + 1, p1 + 1, pre.snoc y1.op y1.n y1.k, A6, c6, bs6, hlt, by go_num, by go_num, rfl, by rw [Fo.snoc_len, HPL.out], by omega, HF.out, HT6.out, Below.grown HB5.out HG6.out HB5.out.size (fun g' hg' => ?_)⟩
            obtain ⟨st, b1', k1', k2', rfl, _⟩ := HT5.out
            exact (blk_lt k1' (by unfold blkV; rw [hg']; simp)).1
          case measure => simp [intOf]; omega
    · have e9 : j = cs.length := by omega
      have HF := Lib.hid (show r = some (pre, p) by rw [hpre, e9, List.drop_length]; simp only [partsAt, combF, Fo.app_nil])
      have HT := Lib.hid ht
      have HB := Lib.hid hb
      clear ht hb hpre hpl
      go_wp2_with fail
      go_ret2
      exact ⟨pre, A1, c1', bs, _, rfl, HT.out, HB.out, by rw [HF.out]; exact ⟨rfl, rfl⟩⟩
end Go.Proofs.Ytiepflaghfjijaa
