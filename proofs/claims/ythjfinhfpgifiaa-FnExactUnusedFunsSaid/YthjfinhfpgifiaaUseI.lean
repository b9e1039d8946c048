/-
  impl.usedBy, impl.UnusedFuns (made by gen_use.py).
-/
import Derived.Test.YthjfinhfpgifiaaUseD
import Derived.Test.YthjfinhfpgifiaaGraI
import Derived.Test.YthjfinhfpgifiaaEffS
import Derived.Test.YthjfinhfpgifiaaLibVS
import Derived.Maps.AppendAt
import Derived.Deep.RegionWith
import Derived.Test.YthjfinhfpgifiaaFromIR
namespace Go.Proofs.Ythjfinhfpgifiaa
open Go.RowKit Go.Shelf
set_option maxRecDepth 100000

theorem bit_union (S T : Nat → Bool) : bits .or .u8 (bv S : Int) (bv T : Int) = ((bv (fun i => S i || T i) : Nat) : Int) := by
  rw [u8_or_nat _ _ (bv_lt S) (bv_lt T), bv_union]
def usedV (ds : List De) (f : Fo) : Int := if rightB ds f then (bv (usedF ds f) : Int) else 0
theorem usedV_no {ds : List De} {f : Fo} (h : rightB ds f = false) : usedV ds f = 0 := by unfold usedV; rw [h]; rfl
theorem usedV_yes {ds : List De} {f : Fo} (h : rightB ds f = true) : usedV ds f = (bv (usedF ds f) : Int) := by unfold usedV; rw [h]; rfl
def UsedPost (ds : List De) (f : Fo) (w : World) (e : Ending) (w' : World) : Prop := e = .returned (.tuple #[.int .u8 (usedV ds f), .bool (rightB ds f)]) ∧ Below w.heap.size w w'

set_option maxHeartbeats 2000000 in
theorem usedBy_r (ds : List De) (DA : Option Addr) (DC : Nat) (f : Fo) (A : Option Addr) (c LD BD L B : Nat) (w : World) (hd : LiesD w LD BD DA ds) (hBD : BD ≤ w.heap.size) (hl : Lies w L B A 0 f) (hB : B ≤ w.heap.size) (hdz : sizeD ds ≤ 1048576) (hsz : f.size ≤ 1048576) :
    Calls Try.prog 23 #[.slice DA ds.length DC, .slice A f.len c] w (UsedPost ds f w) := by
  have hfl := Fo.len_le_size f
  by_cases h10 : f.len ≤ 10
  · have HV := Lib.hid (implLibValid_r ds DA DC LD BD w hd hBD hdz)
    have hi10 : ¬ (10 : Int) < (f.len : Int) := by omega
    have HD := Lib.hid hd
    have HL := Lib.hid hl
    clear hd hl
    cases hv : libOk ds with
    | false =>
      rw [hv] at HV
      have HR := Lib.hid (show rightB ds f = false by unfold rightB; rw [hv]; rfl)
      clear hv
      go_enter Try.func23, Try.ntmps23
      go_wp2_with fail
      refine HV.out.mono ?_
      rintro e w2 ⟨rfl, hb2⟩
      have HB2 := Lib.hid hb2
      clear hb2
      go_wp2
      refine bodyPost_ret (v := .tuple #[.int .u8 0, .bool false]) ?_ rfl ⟨by rw [usedV_no HR.out, HR.out], HB2.out⟩
      simp [results, Try.f23, go_sem]
    | true =>
      rw [hv] at HV
      have HR := Lib.hid (right_len hv h10)
      have HOK := Lib.hid hv
      clear hv
      go_enter Try.func23, Try.ntmps23
      go_wp2_with fail
      refine HV.out.mono ?_
      rintro e w2 ⟨rfl, hb2⟩
      have HB2 := Lib.hid hb2
      clear hb2 HV
      go_wp2_with fail
      go_loopw [6, 19] (fun u i wr => ∃ (j : Nat) (S : Nat → Bool), j ≤ f.len ∧ i = .int .i64 (j : Int) ∧ u = .int .u8 (bv S : Int) ∧ Hid (clientsOk ds f = clientsOk ds (f.drop j)) ∧ Hid (∀ x, usedF ds f x = (S x || usedF ds (f.drop j) x)) ∧ Below w.heap.size w wr)
        (fun _ i _ => f.len - (intOf i).toNat)
      case atStart => exact ⟨0, fun _ => false, Nat.zero_le _, rfl, rfl, Lib.hid (by rw [Fo.drop_zero]), Lib.hid (fun x => by rw [Fo.drop_zero, Bool.false_or]), HB2.out⟩
      case round =>
        clear HB2
        obtain ⟨j, S, hj, rfl, rfl, HF, HG, hb⟩ := hrel
        by_cases hlt : j < f.len
        · have hji : (j : Int) < (f.len : Int) := by omega
          obtain ⟨o1, n1, k1, e1, s1, _⟩ := Fo.drop_of_lt f j hlt
          have j1 := (HL.out.below (hb.mono hB)).at_ j
          rw [Nat.zero_add, e1] at j1
          obtain ⟨⟨b, o, A1, c1, hA, _, hbb, _, _, g1, g2, g3, hk1, hk2, x1⟩, _⟩ := j1
          subst hA
          have HE := Lib.hid (HF.out.trans (clientsOk_cons e1))
          have HX := Lib.hid (show ∀ x, usedF ds f x = (S x || (fromS ds o1 n1 k1 x || usedF ds (f.drop (j + 1)) x)) from fun x => by rw [HG.out x, usedF_cons e1])
          obtain ⟨bA, rA⟩ := one_box wr 49 #[Value.int .i64 o1, Value.int .i64 n1, Value.slice A1 k1.len c1]
          have hbA := hb.trans (bA.mono hb.size)
          have HBA := Lib.hid hbA
          have HRA := Lib.hid rA
          have HL1 := Lib.hid (x1.below (bA.mono (Nat.le_trans hB hb.size)))
          have HBz := Lib.hid (show B ≤ (wr.alloc (Obj.cells #[Value.int .i64 o1, Value.int .i64 n1, Value.slice A1 k1.len c1] 49)).heap.size from Nat.le_trans hB hbA.size)
          have HC := Lib.hid (show Calls Try.prog 31 _ _ (Gives (.bool (clientB ds o1 n1 k1)) _) from implClient_r ds DA DC o1 n1 k1 A1 c1 LD BD L B _ (HD.out.below (hbA.mono hBD)) (Nat.le_trans hBD hbA.size) HL1.out HBz.out hdz hk1 hk2 (by omega))
          rw [← client_is HOK.out] at HC
          have hks : k1.size ≤ 1048576 := by omega
          have q0 := rA.cell (i := 0) rfl
          have q1 := rA.cell (i := 1) rfl
          have q2 := rA.cell (i := 2) rfl
          clear e1 x1 hb HF HG bA rA hbA s1 hbb
          cases hc : (nodeIs o1 n1 k1 (firstS 0) && fitN (ariS ds) o1 n1 k1) with
          | true =>
            rw [hc] at HC HE
            rw [Bool.true_and] at HE
            have HFL := Lib.hid (fromL_yes HOK.out (client_fits hc))
            clear hc
            go_wp2_with fail
            refine HC.out.mono ?_
            rintro e w3 ⟨rfl, hb3⟩
            have HB3 := Lib.hid (HBA.out.trans (hb3.mono HBA.out.size))
            have r3 := HRA.out.below hb3 HRA.out.size
            have q0 := r3.cell (i := 0) rfl
            have q1 := r3.cell (i := 1) rfl
            have q2 := r3.cell (i := 2) rfl
            have HQ := Lib.hid (implFrom_r ds DA DC o1 n1 k1 A1 c1 LD BD L B w3 (HD.out.below (HB3.out.mono hBD)) (Nat.le_trans hBD HB3.out.size) (HL1.out.below (hb3.mono HBz.out)) (Nat.le_trans HBz.out hb3.size) hdz hk1 hk2 hks)
            rw [HFL.out] at HQ
            clear hb3 g1 g2 g3 HC HFL HBA r3
            go_wp2_with fail
            refine HQ.out.mono ?_
            rintro e w4 ⟨v4, rfl, ho4, hb4⟩
            obtain ⟨A4, c4, rfl, hI4⟩ := own_ints ho4 (fun y hy => numsUpto_small _ 8 y (Nat.le_refl _) hy)
            have HB4 := Lib.hid (HB3.out.trans (hb4.mono HB3.out.size))
            have HT := Lib.hid (bitsOf_any (numsUpto (fromS ds o1 n1 k1) 8) A4 c4 w4 (hI4.mono_ (Nat.zero_le _) (Nat.le_refl _)) (Nat.le_trans (numsUpto_len _ 8) (by decide)) (nums_in _))
            rw [bv_nums] at HT
            have HU := Lib.hid (bit_union S (fromS ds o1 n1 k1))
            clear hb4 ho4 hI4 HQ HB3 q0 q1 q2
            go_wp2_with fail
            refine HT.out.mono ?_
            rintro e w5 ⟨rfl, rfl⟩
            clear HT
            go_wp2_with fail
            go_roundw
            case rel => exact ⟨j + 1, fun x => S x || fromS ds o1 n1 k1 x, hlt, by go_num, by rw [← HU.out], HE, Lib.hid (fun x => by rw [HX.out x, Bool.or_assoc]), HB4.out⟩
            case measure => simp [intOf]; omega
          | false =>
            rw [hc] at HC HE
            rw [Bool.false_and] at HE
            clear hc
            go_wp2_with fail
            refine HC.out.mono ?_
            rintro e w3 ⟨rfl, hb3⟩
            have HB3 := Lib.hid (HBA.out.trans (hb3.mono HBA.out.size))
            clear hb3 g1 g2 g3 HC q0 q1 q2
            have HR2 := Lib.hid (HR.out.trans HE.out)
            go_wp2
            refine bodyPost_ret (v := .tuple #[.int .u8 0, .bool false]) ?_ rfl ⟨by rw [usedV_no HR2.out, HR2.out], HB3.out⟩
            simp [results, Try.f23, go_sem]
        · have hje : j = f.len := by omega
          have hji : ¬ (j : Int) < (f.len : Int) := by omega
          have HR2 := Lib.hid (show rightB ds f = true by rw [HR.out, HF.out, hje, Fo.drop_len]; rfl)
          have HU := Lib.hid (show bv S = bv (usedF ds f) from bv_congr fun i _ => by
            rw [HG.out i, hje, Fo.drop_len]
            exact (Bool.or_false _).symm)
          have HB := Lib.hid hb
          clear HF HG hb hje
          go_wp2
          refine bodyPost_ret (v := .tuple #[.int .u8 (bv S : Int), .bool true]) ?_ rfl ⟨by rw [usedV_yes HR2.out, HR2.out, ← HU.out], HB.out⟩
          simp [results, Try.f23, go_sem]
  · have HR := Lib.hid (show rightB ds f = false by unfold rightB; rw [decide_eq_false h10, Bool.false_and, Bool.and_false])
    have hi10 : (10 : Int) < (f.len : Int) := by omega
    clear hd hl
    go_enter Try.func23, Try.ntmps23
    go_wp2
    refine bodyPost_ret (v := .tuple #[.int .u8 0, .bool false]) ?_ rfl ⟨by rw [usedV_no HR.out, HR.out], Below.refl _ _⟩
    simp [results, Try.f23, go_sem]

set_option maxHeartbeats 2000000 in
theorem implUnused_r (ds : List De) (DA : Option Addr) (DC : Nat) (f : Fo) (A : Option Addr) (c LD BD L B : Nat) (w : World) (hd : LiesD w LD BD DA ds) (hBD : BD ≤ w.heap.size) (hl : Lies w L B A 0 f) (hB : B ≤ w.heap.size) (hdz : sizeD ds ≤ 1048576) (hsz : f.size ≤ 1048576) :
    Calls Try.prog 9 #[.slice DA ds.length DC, .slice A f.len c] w (ListPost (unusedL ds f) w) := by
  have hds := Nat.le_trans (sizeD_len ds) hdz
  have HC := Lib.hid (usedBy_r ds DA DC f A c LD BD L B w hd hBD hl hB hdz hsz)
  have HD := Lib.hid hd
  clear hd hl
  cases hr : rightB ds f with
  | false =>
    have HZ := Lib.hid (unusedL_no hr)
    have HR := Lib.hid hr
    clear hr
    go_enter Try.func9, Try.ntmps9
    go_wp2_with fail
    refine HC.out.mono ?_
    rintro e w2 ⟨rfl, hb2⟩
    rw [HR.out]
    have HB2 := Lib.hid hb2
    clear hb2 HC
    go_wp2
    go_ret
    exact ⟨_, rfl, by rw [HZ.out]; exact World.ownsRow_nil _ _ _ _, HB2.out⟩
  | true =>
    have hok : libOk ds = true := (Bool.and_eq_true_iff.1 hr).1
    have HZ := Lib.hid (unusedL_yes hr)
    have HR := Lib.hid hr
    have HUV := Lib.hid (usedV_yes hr)
    obtain ⟨T, hT⟩ : ∃ T, T = usedF ds f := ⟨_, rfl⟩
    obtain ⟨p, hp⟩ : ∃ p : Int → Bool, p = fun y => !T y.toNat := ⟨_, rfl⟩
    have HZ := Lib.hid (show unusedL ds f = (namesD ds).filter p by rw [HZ.out, hp, hT])
    have HP := Lib.hid (show ∀ v : Nat, p (v : Int) = !T v from fun v => by rw [hp]; rfl)
    rw [← hT] at HUV
    have HOK := Lib.hid hok
    clear hr hT hp hok
    go_enter Try.func9, Try.ntmps9
    go_wp2_with fail
    refine HC.out.mono ?_
    rintro e w2 ⟨rfl, hb2⟩
    rw [HR.out, HUV.out]
    have HB2 := Lib.hid hb2
    clear hb2 HC
    go_wp2_with fail
    go_loopw [7, 20] (fun v i wr => ∃ (j : Nat), j ≤ ds.length ∧ i = .int .i64 j ∧ wr.ownsRow w.heap.size 3 1 v (((namesD ds).take j).filter p).length ((((namesD ds).take j).filter p).map (Value.int .i64)) ∧ Below w.heap.size w wr)
      (fun _ i _ => ds.length - (intOf i).toNat)
    case atStart => exact ⟨0, by omega, rfl, World.ownsRow_nil _ _ _ _, HB2.out⟩
    case round =>
      clear HB2
      obtain ⟨j, hj, rfl, hown, hb⟩ := hrel
      by_cases hlt : j < ds.length
      · have hji : (j : Int) < (ds.length : Int) := by omega
        have e1 := List.getElem?_eq_getElem hlt
        generalize ds[j] = d at e1
        have hdm := List.mem_of_getElem? e1
        have e2 := namesD_at e1
        have hfl := filter_take_len p (namesD ds) j
        rw [namesD_len] at hfl
        obtain ⟨b, o, A', c', hA, _, hbb, hf, g1, g2, g3, g4, g5, g6, h7, h8, h9⟩ := (HD.out.below (hb.mono hBD)) j d e1
        subst hA
        obtain ⟨e0, e8⟩ := inVar_nat (libOk_named HOK.out d hdm).1
        have HE0 := Lib.hid e0
        obtain ⟨v, hv⟩ : ∃ v, v = d.nm.toNat := ⟨_, rfl⟩
        rw [← hv] at e0 e8
        have HFT := Lib.hid (show ∀ z, p (v : Int) = z → ((namesD ds).take (j + 1)).filter p = ((namesD ds).take j).filter p ++ (if z then [(v : Int)] else []) from fun z hz => by
          rw [List.take_add_one, e2, List.filter_append, ← e0]
          cases z <;> simp [hz])
        rw [← e0] at g1
        have HPV := Lib.hid (HP.out v)
        obtain ⟨C, hC⟩ : ∃ C, C = Obj.cells #[Value.int IntKind.i64 (v : Int), Value.int IntKind.i64 d.ar, Value.bool d.old, Value.int IntKind.i64 d.op, Value.int IntKind.i64 d.n, Value.slice A' d.k.len c'] 51 := ⟨_, rfl⟩
        have hbd : Below w.heap.size w (wr.alloc C) := hb.alloc hb.size C
        have hod := hown.alloc C
        have hrd : Row (wr.alloc C) wr.heap.size 51 #[Value.int IntKind.i64 (v : Int), Value.int IntKind.i64 d.ar, Value.bool d.old, Value.int IntKind.i64 d.op, Value.int IntKind.i64 d.n, Value.slice A' d.k.len c'] := by
          rw [hC]
          exact Row.fresh _ _ _
        have hH := bitsHas_any T (v : Int) (wr.alloc C)
        rw [inVar_mk (by omega) (by omega), Bool.true_and, Int.toNat_natCast] at hH
        have HC := Lib.hid hC
        rw [hC] at hbd hod hrd hH
        have q0 := hrd.cell (i := 0) rfl
        have HH := Lib.hid hH
        have HO := Lib.hid hod
        have HB := Lib.hid hbd
        have HRD := Lib.hid hrd
        clear e1 e2 hown hb h7 h8 h9 hf hdm e0 hv hbd hod hrd hH hC
        cases ht : T v with
        | true =>
          rw [ht] at HH HPV
          have HN := Lib.hid (HFT.out false HPV.out)
          clear ht HFT
          go_wp2_with fail
          refine HH.out.mono ?_
          rintro e w3 ⟨rfl, rfl⟩
          go_wp2_with fail
          go_roundw
          case rel => exact ⟨j + 1, hlt, by go_num, by rw [HN.out]; simpa using HO.out, HB.out⟩
          case measure => simp [intOf]; omega
        | false =>
          rw [ht] at HH HPV
          have HN := Lib.hid (HFT.out true HPV.out)
          clear ht HFT
          go_wp2_with fail
          refine HH.out.mono ?_
          rintro e w3 ⟨rfl, rfl⟩
          obtain ⟨w3, hw3⟩ : ∃ w3, w3 = wr.alloc (Obj.cells #[Value.int IntKind.i64 (v : Int), Value.int IntKind.i64 d.ar, Value.bool d.old, Value.int IntKind.i64 d.op, Value.int IntKind.i64 d.n, Value.slice A' d.k.len c'] 51) := ⟨_, rfl⟩
          rw [← hw3] at HO HB q0 ⊢
          have HW := Lib.hid hw3
          clear hw3 g1 g2 g3 g4 g5 g6 HH
          obtain ⟨iT, hiT, hiz0, hiz1, hiz2⟩ := info_parts (show (Try.prog.info? 3).map (fun i => (i.zero, i.size, i.bytes)) = some (some (.int .i64 0), 1, 8) by kernel_rfl)
          have HIT := Lib.hid hiT
          have HIZ0 := Lib.hid hiz0
          have HIZ1 := Lib.hid hiz1
          have HIZ2 := Lib.hid hiz2
          have C1 := Lib.hid (fresh_cells w3 3 #[Value.int .i64 (v : Int)])
          have HC2 := Lib.hid (show ∀ u ∈ [Value.int .i64 (v : Int)], u.oneCell' = true by intro u hu; rw [List.mem_singleton.1 hu]; rfl)
          have HC3 := Lib.hid (show (((namesD ds).take j).filter p).length + 1 ≤ maxLen by unfold maxLen; omega)
          have HC4 := Lib.hid (show ((((namesD ds).take j).filter p).length + 1) * 8 ≤ 140737488355328 by omega)
          have HC5 := Lib.hid (show w.heap.size ≤ (w3.alloc (.cells #[Value.int .i64 (v : Int)] 3)).heap.size by have := HB.out.size; rw [World.size_alloc]; omega)
          have HOA := Lib.hid (HO.out.alloc (.cells #[Value.int .i64 (v : Int)] 3))
          clear hiT hiz0 hiz1 hiz2
          go_wp2_with (at_builtin; refine wpList_append_own_at _ rfl _ _ 26 rfl (w.heap.size) 3 iT _ 1 8 Try.underlying26 HIT.out HIZ0.out HIZ1.out HIZ2.out rfl (by decide) _ _ _ rfl HOA.out ⟨w3.heap.size, 0, none⟩ 1 1 [Value.int .i64 (v : Int)] rfl rfl C1.out HC2.out HC3.out HC4.out HC5.out ?_; intro v' w' hown5 hgrow5 _ hblk)
          have hb5 : Below w.heap.size w w' := Below.grown (HB.out.alloc HB.out.size (.cells #[Value.int .i64 (v : Int)] 3)) hgrow5 (Nat.le_trans (by omega) HC5.out) (fun g' hg' => by have := own_at_least HO.out hg'; omega)
          have HO5 := Lib.hid hown5
          have HB5 := Lib.hid hb5

          clear hown5 hgrow5 hblk hb5 q0
          go_wp2_with fail
          go_roundw
          case rel =>
            refine ⟨j + 1, hlt, by go_num, ?_, HB5.out⟩
            rw [HN.out]
            simpa using HO5.out
          case measure => simp [intOf]; omega
      · have e9 : j = ds.length := by omega
        have hji : ¬ (j : Int) < (ds.length : Int) := by omega
        have HE := Lib.hid (show (namesD ds).take j = namesD ds from List.take_of_length_le (by rw [namesD_len]; omega))
        have HO := Lib.hid hown
        have HB := Lib.hid hb
        clear hown hb
        go_wp2
        go_ret
        exact ⟨_, rfl, by rw [HZ.out, ← HE.out]; exact HO.out, HB.out⟩
end Go.Proofs.Ythjfinhfpgifiaa
