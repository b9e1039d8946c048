/-
  spec.l12Right, spec.l12Used, spec.UnusedFuns (made by gen_use.py).
-/
import Derived.Test.YthjfinhfpgifiaaUseD
import Derived.Test.YthjfinhfpgifiaaGraI
import Derived.Test.YthjfinhfpgifiaaEffS
import Derived.Test.YthjfinhfpgifiaaLibVS
import Derived.Maps.AppendAt
import Derived.Deep.RegionWith
namespace Go.Proofs.Ythjfinhfpgifiaa
open Go.RowKit Go.Shelf
set_option maxRecDepth 100000

set_option maxHeartbeats 1000000 in
theorem l12Right_any (ds : List De) (DA : Option Addr) (DC : Nat) (f : Fo) (A : Option Addr) (c : Nat) (w : World) (hd : LiesD w 0 w.heap.size DA ds) (hl : Lies w 0 w.heap.size A 0 f) (hdz : sizeD ds ≤ 1048576) (hsz : f.size ≤ 1048576) :
    Calls Try.prog 19 #[.slice DA ds.length DC, .slice A f.len c] w (Gives (.bool (rightB ds f)) w) := by
  have hds := Nat.le_trans (sizeD_len ds) hdz
  have hfl := Fo.len_le_size f
  have HV := Lib.hid (specLibValid_any ds DA DC w hd hdz)
  have HD := Lib.hid hd
  have HL := Lib.hid hl
  clear hd hl
  cases hv : libOk ds with
  | false =>
    rw [hv] at HV
    have HZ := Lib.hid (show rightB ds f = false by unfold rightB; rw [hv]; rfl)
    clear hv
    go_enter Try.func19, Try.ntmps19
    go_wp2_with fail
    refine HV.out.mono ?_
    rintro e w2 ⟨rfl, hb2⟩
    have HB2 := Lib.hid hb2
    clear hb2
    go_wp2
    go_ret
    exact ⟨ret_bool (by rw [HZ.out]), HB2.out⟩
  | true =>
    rw [hv] at HV
    by_cases h10 : f.len ≤ 10
    · have HZ := Lib.hid (right_len hv h10)
      have hi10 : ¬ (10 : Int) < (f.len : Int) := by omega
      clear hv
      go_enter Try.func19, Try.ntmps19
      go_wp2_with fail
      refine HV.out.mono ?_
      rintro e w2 ⟨rfl, hb2⟩
      have HB2 := Lib.hid hb2
      clear hb2 HV
      go_wp2_with fail
      go_loopw [5] (fun i wr => ∃ (j : Nat), j ≤ f.len ∧ i = .int .i64 (j : Int) ∧ Hid (clientsOk ds f = clientsOk ds (f.drop j)) ∧ Below w.heap.size w wr)
        (fun i _ => f.len - (intOf i).toNat)
      case atStart => exact ⟨0, Nat.zero_le _, rfl, Lib.hid (by rw [Fo.drop_zero]), HB2.out⟩
      case round =>
        clear HB2
        obtain ⟨j, hj, rfl, HF, hb⟩ := hrel
        by_cases hlt : j < f.len
        · obtain ⟨o1, n1, k1, e1, s1, _⟩ := Fo.drop_of_lt f j hlt
          have j1 := (HL.out.below hb).at_ j
          rw [Nat.zero_add, e1] at j1
          obtain ⟨⟨b, o, A1, c1, hA, _, hbb, _, _, g1, g2, g3, hk1, hk2, x1⟩, _⟩ := j1
          subst hA
          have HE := Lib.hid (HF.out.trans (clientsOk_cons e1))
          have HC := Lib.hid (l2Client_any ds DA DC o1 n1 k1 A1 c1 wr (HD.out.up hb) (x1.mono_ (Nat.le_refl _) hb.size) hds (Nat.le_trans hk1 hk2) (by omega))
          have HB := Lib.hid hb
          clear e1 x1 hb HF
          cases hc : (nodeIs o1 n1 k1 (firstS 0) && fitN (ariS ds) o1 n1 k1) with
          | true =>
            rw [hc] at HC HE
            rw [Bool.true_and] at HE
            clear hc
            go_wp2_with fail
            refine HC.out.mono ?_
            rintro e w3 ⟨rfl, hb3⟩
            have HB3 := Lib.hid (HB.out.trans (hb3.mono HB.out.size))
            clear hb3 g1 g2 g3 HC
            go_wp2
            go_roundw
            case rel => exact ⟨j + 1, hlt, by go_num, HE, HB3.out⟩
            case measure => simp [intOf]; omega
          | false =>
            rw [hc] at HC HE
            rw [Bool.false_and] at HE
            clear hc
            go_wp2_with fail
            refine HC.out.mono ?_
            rintro e w3 ⟨rfl, hb3⟩
            have HB3 := Lib.hid (HB.out.trans (hb3.mono HB.out.size))
            clear hb3 g1 g2 g3 HC
            go_wp2
            go_ret
            exact ⟨ret_bool (by rw [HZ.out, HE.out]), HB3.out⟩
        · have hje : j = f.len := by omega
          have HE := Lib.hid (show clientsOk ds f = true by rw [HF.out, hje, Fo.drop_len]; rfl)
          have HB := Lib.hid hb
          clear HF hb hje
          go_wp2
          go_ret
          exact ⟨ret_bool (by rw [HZ.out, HE.out]), HB.out⟩
    · have HZ := Lib.hid (show rightB ds f = false by unfold rightB; rw [hv, decide_eq_false h10]; rfl)
      have hi10 : (10 : Int) < (f.len : Int) := by omega
      clear hv
      go_enter Try.func19, Try.ntmps19
      go_wp2_with fail
      refine HV.out.mono ?_
      rintro e w2 ⟨rfl, hb2⟩
      have HB2 := Lib.hid hb2
      clear hb2
      go_wp2
      go_ret
      exact ⟨ret_bool (by rw [HZ.out]), HB2.out⟩

theorem cells8_put (S : Nat → Bool) (b : Bool) {v : Nat} (h : v < 8) : (cells8 S).setIfInBounds v (.bool b) = cells8 (fun i => if i = v then b else S i) := by
  rcases v with _ | _ | _ | _ | _ | _ | _ | _ | v
  all_goals first | rfl | omega

set_option maxHeartbeats 2000000 in
theorem l12Used_any (ds : List De) (DA : Option Addr) (DC : Nat) (f : Fo) (A : Option Addr) (c : Nat) (w : World) (hd : LiesD w 0 w.heap.size DA ds) (hl : Lies w 0 w.heap.size A 0 f) (hdz : sizeD ds ≤ 1048576) (hsz : f.size ≤ 1048576) :
    Calls Try.prog 20 #[.slice DA ds.length DC, .slice A f.len c] w (FromPost (usedF ds f) w) := by
  have hds := Nat.le_trans (sizeD_len ds) hdz
  have hfl := Fo.len_le_size f
  have hmk := madeF_run
  have hr0 := Row.fresh w 4 (cells8 fun _ => false)
  have hb0 : Below w.heap.size w (w.alloc (Obj.cells (cells8 fun _ => false) 4)) := (Below.refl _ _).alloc (Nat.le_refl _) _
  have HR := Lib.hid hr0
  have HB := Lib.hid hb0
  have HD := Lib.hid hd
  have HL := Lib.hid hl
  clear hd hl hr0 hb0
  go_enter Try.func20, Try.ntmps20
  go_wp2_with fail
  clear hmk
  go_loopw [6] (fun i wr => ∃ (j : Nat) (S : Nat → Bool), j ≤ f.len ∧ i = .int .i64 (j : Int) ∧ Hid (∀ x, usedF ds f x = (S x || usedF ds (f.drop j) x)) ∧ Row wr w.heap.size 4 (cells8 S) ∧ Below w.heap.size w wr)
    (fun i _ => f.len - (intOf i).toNat)
  case atStart => exact ⟨0, fun _ => false, Nat.zero_le _, rfl, Lib.hid (fun x => by rw [Fo.drop_zero, Bool.false_or]), HR.out, HB.out⟩
  case round =>
    clear HR HB
    obtain ⟨j, S, hj, rfl, HF, hr, hb⟩ := hrel
    by_cases hlt : j < f.len
    · obtain ⟨o1, n1, k1, e1, s1, _⟩ := Fo.drop_of_lt f j hlt
      have j1 := (HL.out.below hb).at_ j
      rw [Nat.zero_add, e1] at j1
      obtain ⟨⟨b, o, A1, c1, hA, _, hbb, _, _, g1, g2, g3, hk1, hk2, x1⟩, _⟩ := j1
      subst hA
      have HE := Lib.hid (show ∀ x, usedF ds f x = (S x || (fromS ds o1 n1 k1 x || usedF ds (f.drop (j + 1)) x)) from fun x => by rw [HF.out x, usedF_cons e1])
      have HC := Lib.hid (show Calls Try.prog 29 _ wr (FromPost (fromS ds o1 n1 k1) wr) from l2From_any ds DA DC o1 n1 k1 A1 c1 wr (HD.out.up hb) (x1.mono_ (Nat.le_refl _) hb.size) hdz (by omega))
      obtain ⟨F, hF⟩ : ∃ F, F = fromS ds o1 n1 k1 := ⟨_, rfl⟩
      rw [← hF] at HE HC
      have HB := Lib.hid hb
      have HR := Lib.hid hr
      clear e1 x1 hb hr HF hF
      obtain ⟨wo, rfl⟩ : ∃ wo : World, wo = wr := ⟨_, rfl⟩
      go_wp2_with fail
      refine HC.out.mono ?_
      rintro e w3 ⟨g, rfl, hg, hgz, hb3⟩
      have HB3 := Lib.hid (HB.out.trans (hb3.mono HB.out.size))
      have HR3 := Lib.hid (HR.out.below hb3 HR.out.size)
      have HG := Lib.hid hg
      have hgz2 : w.heap.size ≤ g := Nat.le_trans HB.out.size hgz
      have hgn : w.heap.size ≠ g := by have := HR.out.size; omega
      clear hb3 g1 g2 g3 HC hg
      go_wp2_with fail
      go_loopw [8] (fun i wr => ∃ (q : Nat), q ≤ 8 ∧ i = .int .i64 (q : Int) ∧ Row wr w.heap.size 4 (cells8 fun x => S x || (decide (x < q) && F x)) ∧ Row wr g 4 (cells8 F) ∧ Below w.heap.size w wr)
        (fun i _ => 8 - (intOf i).toNat)
      case atStart => exact ⟨0, Nat.zero_le _, rfl, by
        have : cells8 (fun x => S x || (decide (x < 0) && F x)) = cells8 S := cells8_congr fun i _ => by simp
        rw [this]
        exact HR3.out, HG.out, HB3.out⟩
      case round =>
        clear HR3 HG HB3
        obtain ⟨q, hq, rfl, hr, hg, hb⟩ := hrel
        by_cases hlt8 : q < 8
        · have q1 := hr.cell (cells8_at (fun x => S x || (decide (x < q) && F x)) hlt8)
          have e0 : (S q || (decide (q < q) && F q)) = S q := by simp
          simp only [e0] at q1
          have q2 := hg.cell (cells8_at F hlt8)
          have f1 := hr.free q
          have HPE := Lib.hid (show (cells8 fun x => S x || (decide (x < q) && F x)).setIfInBounds q (.bool (S q || F q)) = cells8 (fun x => S x || (decide (x < q + 1) && F x)) by
            rw [cells8_put _ _ hlt8]
            refine cells8_congr fun i _ => ?_
            by_cases hi : i = q
            · subst hi; simp
            · have : decide (i < q + 1) = decide (i < q) := decide_eq_decide.2 (by omega)
              rw [if_neg hi, this])
          have HR := Lib.hid hr
          have HG := Lib.hid (hg.apart (p := ⟨w.heap.size, q, none⟩) (by simpa using hgn.symm) (.bool (S q || F q)))
          have HB := Lib.hid (hb.setCell (p := ⟨w.heap.size, q, none⟩) (Nat.le_refl _) (.bool (S q || F q)))
          clear hr hg hb e0
          cases hs : S q with
          | true =>
            rw [hs] at q1
            simp only [hs, Bool.true_or] at HPE HG HB
            clear hs
            go_wp2
            go_roundw
            case rel => exact ⟨q + 1, hlt8, by go_num, by rw [← HPE.out]; exact HR.out.put q _, HG.out, HB.out⟩
            case measure => simp [intOf]; omega
          | false =>
            rw [hs] at q1
            simp only [hs, Bool.false_or] at HPE HG HB
            clear hs
            go_wp2
            go_roundw
            case rel => exact ⟨q + 1, hlt8, by go_num, by rw [← HPE.out]; exact HR.out.put q _, HG.out, HB.out⟩
            case measure => simp [intOf]; omega
        · have hqe : q = 8 := by omega
          subst hqe
          have hcg : cells8 (fun x => S x || (decide (x < 8) && F x)) = cells8 (fun x => S x || F x) := cells8_congr fun i hi => by rw [decide_eq_true hi, Bool.true_and]
          rw [hcg] at hr
          have HR := Lib.hid hr
          have HB := Lib.hid hb
          clear hr hb hg hcg
          go_wp2
          go_roundw
          case rel => exact ⟨j + 1, fun x => S x || F x, hlt, by go_num, Lib.hid (fun x => by rw [HE.out x, Bool.or_assoc]), HR.out, HB.out⟩
          case measure => simp [intOf]; omega
    · have hje : j = f.len := by omega
      have hcg : cells8 S = cells8 (usedF ds f) := cells8_congr fun i _ => by
        rw [HF.out i, hje, Fo.drop_len]
        exact (Bool.or_false _).symm
      rw [hcg] at hr
      have HR := Lib.hid hr
      have HB := Lib.hid hb
      clear HF hr hb hje hcg
      go_wp2
      go_ret
      exact ⟨_, rfl, HR.out, Nat.le_refl _, HB.out⟩

set_option maxHeartbeats 2000000 in
theorem specUnused_any (ds : List De) (DA : Option Addr) (DC : Nat) (f : Fo) (A : Option Addr) (c : Nat) (w : World) (hd : LiesD w 0 w.heap.size DA ds) (hl : Lies w 0 w.heap.size A 0 f) (hdz : sizeD ds ≤ 1048576) (hsz : f.size ≤ 1048576) :
    Calls Try.prog 6 #[.slice DA ds.length DC, .slice A f.len c] w (ListPost (unusedL ds f) w) := by
  have hds := Nat.le_trans (sizeD_len ds) hdz
  have own0 : (w.alloc (Obj.cells #[] 3)).ownsRow w.heap.size 3 1 (.slice (some ⟨w.heap.size, 0, none⟩) 0 0) 0 [] :=
    ⟨rfl, .inr ⟨w.heap.size, 0, #[], rfl, Nat.le_refl _, heap_alloc_new _ _, Nat.le_refl _, by decide, rfl, rfl⟩⟩
  have hb1 : Below w.heap.size w (w.alloc (Obj.cells #[] 3)) := (Below.refl _ _).alloc (Nat.le_refl _) _
  have HOWN := Lib.hid own0
  have HB1 := Lib.hid hb1
  have HD := Lib.hid hd
  have HRT := Lib.hid (l12Right_any ds DA DC f A c _ (hd.up hb1) (hl.up hb1) hdz hsz)
  have HL := Lib.hid hl
  clear own0 hb1 hd hl
  cases hr : rightB ds f with
  | false =>
    rw [hr] at HRT
    have HZ := Lib.hid (unusedL_no hr)
    clear hr
    go_enter Try.func6, Try.ntmps6
    go_wp2_with fail
    refine HRT.out.mono ?_
    rintro e w2 ⟨rfl, hb2⟩
    have HB2 := Lib.hid (HB1.out.trans (hb2.mono HB1.out.size))
    have HO2 := Lib.hid (own_below HOWN.out hb2)
    clear hb2
    go_wp2
    go_ret
    exact ⟨_, rfl, by rw [HZ.out]; exact HO2.out, HB2.out⟩
  | true =>
    rw [hr] at HRT
    have hok : libOk ds = true := (Bool.and_eq_true_iff.1 hr).1
    have HZ := Lib.hid (unusedL_yes hr)
    obtain ⟨T, hT⟩ : ∃ T, T = usedF ds f := ⟨_, rfl⟩
    obtain ⟨p, hp⟩ : ∃ p : Int → Bool, p = fun y => !T y.toNat := ⟨_, rfl⟩
    have HU := Lib.hid (fun W (hb : Below w.heap.size w W) => show Calls Try.prog 20 _ W (FromPost T W) from hT ▸ l12Used_any ds DA DC f A c W (HD.out.up hb) (HL.out.up hb) hdz hsz)
    have HZ := Lib.hid (show unusedL ds f = (namesD ds).filter p by rw [HZ.out, hp, hT])
    have HP := Lib.hid (show ∀ v : Nat, p (v : Int) = !T v from fun v => by rw [hp]; rfl)
    have HOK := Lib.hid hok
    clear hr hT hp hok
    go_enter Try.func6, Try.ntmps6
    go_wp2_with fail
    refine HRT.out.mono ?_
    rintro e w2 ⟨rfl, hb2⟩
    have HB2 := Lib.hid (HB1.out.trans (hb2.mono HB1.out.size))
    have HO2 := Lib.hid (own_below HOWN.out hb2)
    have HC := Lib.hid (HU.out w2 HB2.out)
    clear hb2 HRT HOWN HB1 HU
    go_wp2_with fail
    refine HC.out.mono ?_
    rintro e w3 ⟨g, rfl, hg, hgz, hb3⟩
    have HB3 := Lib.hid (HB2.out.trans (hb3.mono HB2.out.size))
    have HO3 := Lib.hid (own_below HO2.out hb3)
    have HG3 := Lib.hid hg
    clear hb3 HC HO2 HB2 hg
    go_wp2_with fail
    go_loopw [5, 7] (fun v i wr => ∃ (j : Nat), j ≤ ds.length ∧ i = .int .i64 j ∧ wr.ownsRow w.heap.size 3 1 v (((namesD ds).take j).filter p).length ((((namesD ds).take j).filter p).map (Value.int .i64)) ∧ Row wr g 4 (cells8 T) ∧ Below w.heap.size w wr)
      (fun _ i _ => ds.length - (intOf i).toNat)
    case atStart => exact ⟨0, by omega, rfl, HO3.out, HG3.out, HB3.out⟩
    case round =>
      clear HO3 HG3 HB3
      obtain ⟨j, hj, rfl, hown, hg, hb⟩ := hrel
      by_cases hlt : j < ds.length
      · have e1 := List.getElem?_eq_getElem hlt
        generalize ds[j] = d at e1
        have hdm := List.mem_of_getElem? e1
        have e2 := namesD_at e1
        have hfl := filter_take_len p (namesD ds) j
        rw [namesD_len] at hfl
        obtain ⟨b, o, A', c', hA, _, hbb, hf, g1, g2, g3, g4, g5, g6, h7, h8, h9⟩ := HD.out.below hb j d e1
        subst hA
        obtain ⟨e0, e8⟩ := inVar_nat (libOk_named HOK.out d hdm).1
        generalize d.nm.toNat = v at e0 e8
        have HFT := Lib.hid (show ∀ z, p (v : Int) = z → ((namesD ds).take (j + 1)).filter p = ((namesD ds).take j).filter p ++ (if z then [(v : Int)] else []) from fun z hz => by
          rw [List.take_add_one, e2, List.filter_append, ← e0]
          cases z <;> simp [hz])
        rw [← e0] at g1
        have qv := hg.cell (cells8_at T e8)
        have HPV := Lib.hid (HP.out v)
        have HO := Lib.hid hown
        have HG := Lib.hid hg
        have HB := Lib.hid hb
        have HG1 := Lib.hid g1
        have hbs : b < wr.heap.size := Nat.lt_of_lt_of_le hbb hb.size
        clear e1 e2 hown hg hb h7 h8 h9 hf g2 g3 g4 g5 g6 hdm e0
        cases ht : T v with
        | true =>
          rw [ht] at qv HPV
          have HN := Lib.hid (HFT.out false HPV.out)
          clear ht HFT
          go_wp2
          go_roundw
          case rel => exact ⟨j + 1, hlt, by go_num, by rw [HN.out]; simpa using HO.out, HG.out, HB.out⟩
          case measure => simp [intOf]; omega
        | false =>
          rw [ht] at qv HPV
          have HN := Lib.hid (HFT.out true HPV.out)
          clear ht HFT
          obtain ⟨iT, hiT, hiz0, hiz1, hiz2⟩ := info_parts (show (Try.prog.info? 3).map (fun i => (i.zero, i.size, i.bytes)) = some (some (.int .i64 0), 1, 8) by kernel_rfl)
          have HIT := Lib.hid hiT
          have HIZ0 := Lib.hid hiz0
          have HIZ1 := Lib.hid hiz1
          have HIZ2 := Lib.hid hiz2
          have C1 := Lib.hid (fresh_cells wr 3 #[Value.int .i64 (v : Int)])
          have HC2 := Lib.hid (show ∀ u ∈ [Value.int .i64 (v : Int)], u.oneCell' = true by intro u hu; rw [List.mem_singleton.1 hu]; rfl)
          have HC3 := Lib.hid (show (((namesD ds).take j).filter p).length + 1 ≤ maxLen by unfold maxLen; omega)
          have HC4 := Lib.hid (show ((((namesD ds).take j).filter p).length + 1) * 8 ≤ 140737488355328 by omega)
          have HC5 := Lib.hid (show w.heap.size ≤ (wr.alloc (.cells #[Value.int .i64 (v : Int)] 3)).heap.size by have := HB.out.size; rw [World.size_alloc]; omega)
          have HOA := Lib.hid (HO.out.alloc (.cells #[Value.int .i64 (v : Int)] 3))
          clear hiT hiz0 hiz1 hiz2
          go_wp2_with (at_builtin; refine wpList_append_own_at _ rfl _ _ 26 rfl (w.heap.size) 3 iT _ 1 8 Try.underlying26 HIT.out HIZ0.out HIZ1.out HIZ2.out rfl (by decide) _ _ _ rfl HOA.out ⟨wr.heap.size, 0, none⟩ 1 1 [Value.int .i64 (v : Int)] rfl rfl C1.out HC2.out HC3.out HC4.out HC5.out ?_; intro v' w' hown5 hgrow5 _ hblk)
          have hb5 : Below w.heap.size w w' := Below.grown (HB.out.alloc HB.out.size (.cells #[Value.int .i64 (v : Int)] 3)) hgrow5 (Nat.le_trans (by omega) HC5.out) (fun g' hg' => by have := own_at_least HO.out hg'; omega)
          have HO5 := Lib.hid hown5
          have HB5 := Lib.hid hb5

          have hg5 : Row w' g 4 (cells8 T) := (hgrow5.block _ (HG.out.alloc (.cells #[Value.int .i64 (v : Int)] 3)).size (own_other_row (HO.out.alloc (.cells #[Value.int .i64 (v : Int)] 3)) (HG.out.alloc (.cells #[Value.int .i64 (v : Int)] 3)) (by decide))).trans (HG.out.alloc (.cells #[Value.int .i64 (v : Int)] 3))
          have HG5 := Lib.hid hg5
          clear hown5 hgrow5 hblk hb5 g1 qv hg5
          go_wp2_with fail
          go_roundw
          case rel =>
            refine ⟨j + 1, hlt, by go_num, ?_, HG5.out, HB5.out⟩
            rw [HN.out, if_pos rfl, List.length_append, List.map_append]
            exact HO5.out
          case measure => simp [intOf]; omega
      · have e9 : j = ds.length := by omega
        have HE := Lib.hid (show (namesD ds).take j = namesD ds from List.take_of_length_le (by rw [namesD_len]; omega))
        have HO := Lib.hid hown
        have HB := Lib.hid hb
        clear hown hb hg
        go_wp2
        go_ret
        exact ⟨_, rfl, by rw [HZ.out, ← HE.out]; exact HO.out, HB.out⟩
end Go.Proofs.Ythjfinhfpgifiaa
