/-
  The walk of the law FnUnusedFuns: true at every input (UseD, UseS, UseI, DrawUn, LawNUn; made by gen_nun.py).
-/
import Derived.Test.YtpknegneogdmfaaGreatGraD
import Derived.Test.YtpknegneogdmfaaGreatClient
import Derived.Test.YtpknegneogdmfaaGreatGraI
import Derived.Test.YtpknegneogdmfaaGreatEffS
import Derived.Test.YtpknegneogdmfaaGreatLibVS
import Derived.Maps.AppendAt
import Derived.Deep.RegionWith
import Derived.Test.YtpknegneogdmfaaGreatFromIR
import Derived.Test.YtpknegneogdmfaaGreatCliS
import Derived.Test.YtpknegneogdmfaaGreatTreeP
import Derived.Test.YtpknegneogdmfaaGreatAm
namespace Go.Proofs.YtpknegneogdmfaaGreat
open Go.RowKit
set_option maxRecDepth 100000

def clientsOk (ds : List De) : Fo → Bool
  | .nil => true
  | .cons o n k r => (nodeIs o n k (firstS 0) && fitN (ariS ds) o n k) && clientsOk ds r
def usedF (ds : List De) : Fo → Nat → Bool
  | .nil, _ => false
  | .cons o n k r, i => fromS ds o n k i || usedF ds r i
def rightB (ds : List De) (f : Fo) : Bool := libOk ds && (decide (f.len ≤ 10) && clientsOk ds f)
def unusedL (ds : List De) (f : Fo) : List Int := if rightB ds f then (namesD ds).filter fun y => !usedF ds f y.toNat else []
theorem clientsOk_cons {ds : List De} {f : Fo} {o n : Int} {k r : Fo} (e : f = .cons o n k r) : clientsOk ds f = ((nodeIs o n k (firstS 0) && fitN (ariS ds) o n k) && clientsOk ds r) := by subst e; rfl
theorem usedF_cons {ds : List De} {f : Fo} {o n : Int} {k r : Fo} (e : f = .cons o n k r) (i : Nat) : usedF ds f i = (fromS ds o n k i || usedF ds r i) := by subst e; rfl
theorem unusedL_no {ds : List De} {f : Fo} (h : rightB ds f = false) : unusedL ds f = [] := by unfold unusedL; rw [h]; rfl
theorem unusedL_yes {ds : List De} {f : Fo} (h : rightB ds f = true) : unusedL ds f = (namesD ds).filter fun y => !usedF ds f y.toNat := by unfold unusedL; rw [h]; rfl
theorem unusedL_mem {ds : List De} {f : Fo} {x : Int} (h : x ∈ unusedL ds f) : x ∈ namesD ds ∧ libOk ds = true := by
  unfold unusedL at h
  split at h
  · rename_i hr
    exact ⟨(List.mem_filter.1 h).1, (Bool.and_eq_true_iff.1 hr).1⟩
  · cases h
theorem unusedL_small {ds : List De} {f : Fo} : ∀ x ∈ unusedL ds f, I64 x := by
  intro x hx
  obtain ⟨h1, h2⟩ := unusedL_mem hx
  obtain ⟨d, hd, rfl⟩ := List.mem_map.1 h1
  obtain ⟨e0, e8⟩ := inVar_nat (libOk_named h2 d hd).1
  unfold I64
  omega
theorem unusedL_len (ds : List De) (f : Fo) : (unusedL ds f).length ≤ ds.length := by
  unfold unusedL
  split
  · exact Nat.le_trans (List.length_filter_le _ _) (by rw [namesD_len]; exact Nat.le_refl _)
  · exact Nat.zero_le _
theorem unusedL_len8 (ds : List De) (f : Fo) : (unusedL ds f).length ≤ 8 := by
  cases h : libOk ds with
  | false => rw [unusedL_no (by unfold rightB; rw [h]; rfl)]; exact Nat.zero_le _
  | true => exact Nat.le_trans (unusedL_len ds f) (libOk_len h)
theorem client_is {ds : List De} (h : libOk ds = true) (o n : Int) (k : Fo) : (nodeIs o n k (firstS 0) && fitN (ariS ds) o n k) = clientB ds o n k := by unfold clientB; rw [h, Bool.true_and]
theorem client_fits {ds : List De} {o n : Int} {k : Fo} (h : (nodeIs o n k (firstS 0) && fitN (ariS ds) o n k) = true) : callsFitB ds o n k = true := by
  rw [← client_split] at h
  exact (Bool.and_eq_true_iff.1 h).2
theorem right_len {ds : List De} {f : Fo} (h1 : libOk ds = true) (h2 : f.len ≤ 10) : rightB ds f = clientsOk ds f := by unfold rightB; rw [h1, decide_eq_true h2]; rfl
end Go.Proofs.YtpknegneogdmfaaGreat

namespace Go.Proofs.YtpknegneogdmfaaGreat
open Go.RowKit Go.Shelf
set_option maxRecDepth 100000

set_option maxHeartbeats 1000000 in
theorem l12Right_any (ds : List De) (DA : Option Addr) (DC : Nat) (f : Fo) (A : Option Addr) (c : Nat) (w : World) (hd : LiesD w 0 w.heap.size DA ds) (hl : Lies w 0 w.heap.size A 0 f) (hdz : sizeD ds ≤ 1048576) (hsz : f.size ≤ 1048576) :
    Calls Tryz.prog 12 #[.slice DA ds.length DC, .slice A f.len c] w (Gives (.bool (rightB ds f)) w) := by
  have hds := Nat.le_trans (sizeD_len ds) hdz
  have hfl := Fo.len_le_size f
  have HV := Lib.hid (specLibValid_any ds DA DC w hd hdz)
  have HD := Lib.hid hd
  have HL := Lib.hid hl
  clear hd hl
  cases hv : libOk ds with
  | false =>
    rw [hv] at HV
    have HZ := Lib.hid (show rightB ds f = false by unfold rightB; rw [hv]; rfl)
    clear hv
    go_enter Tryz.func12, Tryz.ntmps12
    go_wp2_with fail
    refine HV.out.mono ?_
    rintro e w2 ⟨rfl, hb2⟩
    have HB2 := Lib.hid hb2
    clear hb2
    go_wp2
    go_ret
    exact ⟨ret_bool (by rw [HZ.out]), HB2.out⟩
  | true =>
    rw [hv] at HV
    by_cases h10 : f.len ≤ 10
    · have HZ := Lib.hid (right_len hv h10)
      have hi10 : ¬ (10 : Int) < (f.len : Int) := by omega
      clear hv
      go_enter Tryz.func12, Tryz.ntmps12
      go_wp2_with fail
      refine HV.out.mono ?_
      rintro e w2 ⟨rfl, hb2⟩
      have HB2 := Lib.hid hb2
      clear hb2 HV
      go_wp2_with fail
      go_loopw [5] (fun i wr => ∃ (j : Nat), j ≤ f.len ∧ i = .int .i64 (j : Int) ∧ Hid (clientsOk ds f = clientsOk ds (f.drop j)) ∧ Below w.heap.size w wr)
        (fun i _ => f.len - (intOf i).toNat)
      case atStart => exact ⟨0, Nat.zero_le _, rfl, Lib.hid (by rw [Fo.drop_zero]), HB2.out⟩
      case round =>
        clear HB2
        obtain ⟨j, hj, rfl, HF, hb⟩ := hrel
        by_cases hlt : j < f.len
        · obtain ⟨o1, n1, k1, e1, s1, _⟩ := Fo.drop_of_lt f j hlt
          have j1 := (HL.out.below hb).at_ j
          rw [Nat.zero_add, e1] at j1
          obtain ⟨⟨b, o, A1, c1, hA, _, hbb, _, _, g1, g2, g3, hk1, hk2, x1⟩, _⟩ := j1
          subst hA
          have HE := Lib.hid (HF.out.trans (clientsOk_cons e1))
          have HC := Lib.hid (l2Client_any ds DA DC o1 n1 k1 A1 c1 wr (HD.out.up hb) (x1.mono_ (Nat.le_refl _) hb.size) hds (Nat.le_trans hk1 hk2) (by omega))
          have HB := Lib.hid hb
          clear e1 x1 hb HF
          cases hc : (nodeIs o1 n1 k1 (firstS 0) && fitN (ariS ds) o1 n1 k1) with
          | true =>
            rw [hc] at HC HE
            rw [Bool.true_and] at HE
            clear hc
            go_wp2_with fail
            refine HC.out.mono ?_
            rintro e w3 ⟨rfl, hb3⟩
            have HB3 := Lib.hid (HB.out.trans (hb3.mono HB.out.size))
            clear hb3 g1 g2 g3 HC
            go_wp2
            go_roundw
            case rel => exact ⟨j + 1, hlt, by go_num, HE, HB3.out⟩
            case measure => simp [intOf]; omega
          | false =>
            rw [hc] at HC HE
            rw [Bool.false_and] at HE
            clear hc
            go_wp2_with fail
            refine HC.out.mono ?_
            rintro e w3 ⟨rfl, hb3⟩
            have HB3 := Lib.hid (HB.out.trans (hb3.mono HB.out.size))
            clear hb3 g1 g2 g3 HC
            go_wp2
            go_ret
            exact ⟨ret_bool (by rw [HZ.out, HE.out]), HB3.out⟩
        · have hje : j = f.len := by omega
          have HE := Lib.hid (show clientsOk ds f = true by rw [HF.out, hje, Fo.drop_len]; rfl)
          have HB := Lib.hid hb
          clear HF hb hje
          go_wp2
          go_ret
          exact ⟨ret_bool (by rw [HZ.out, HE.out]), HB.out⟩
    · have HZ := Lib.hid (show rightB ds f = false by unfold rightB; rw [hv, decide_eq_false h10]; rfl)
      have hi10 : (10 : Int) < (f.len : Int) := by omega
      clear hv
      go_enter Tryz.func12, Tryz.ntmps12
      go_wp2_with fail
      refine HV.out.mono ?_
      rintro e w2 ⟨rfl, hb2⟩
      have HB2 := Lib.hid hb2
      clear hb2
      go_wp2
      go_ret
      exact ⟨ret_bool (by rw [HZ.out]), HB2.out⟩

theorem cells8_put (S : Nat → Bool) (b : Bool) {v : Nat} (h : v < 8) : (cells8 S).setIfInBounds v (.bool b) = cells8 (fun i => if i = v then b else S i) := by
  rcases v with _ | _ | _ | _ | _ | _ | _ | _ | v
  all_goals first | rfl | omega

set_option maxHeartbeats 2000000 in
theorem l12Used_any (ds : List De) (DA : Option Addr) (DC : Nat) (f : Fo) (A : Option Addr) (c : Nat) (w : World) (hd : LiesD w 0 w.heap.size DA ds) (hl : Lies w 0 w.heap.size A 0 f) (hdz : sizeD ds ≤ 1048576) (hsz : f.size ≤ 1048576) :
    Calls Tryz.prog 13 #[.slice DA ds.length DC, .slice A f.len c] w (FromPost (usedF ds f) w) := by
  have hds := Nat.le_trans (sizeD_len ds) hdz
  have hfl := Fo.len_le_size f
  have hmk := madeF_run
  have hr0 := Row.fresh w 4 (cells8 fun _ => false)
  have hb0 : Below w.heap.size w (w.alloc (Obj.cells (cells8 fun _ => false) 4)) := (Below.refl _ _).alloc (Nat.le_refl _) _
  have HR := Lib.hid hr0
  have HB := Lib.hid hb0
  have HD := Lib.hid hd
  have HL := Lib.hid hl
  clear hd hl hr0 hb0
  go_enter Tryz.func13, Tryz.ntmps13
  go_wp2_with fail
  clear hmk
  go_loopw [6] (fun i wr => ∃ (j : Nat) (S : Nat → Bool), j ≤ f.len ∧ i = .int .i64 (j : Int) ∧ Hid (∀ x, usedF ds f x = (S x || usedF ds (f.drop j) x)) ∧ Row wr w.heap.size 4 (cells8 S) ∧ Below w.heap.size w wr)
    (fun i _ => f.len - (intOf i).toNat)
  case atStart => exact ⟨0, fun _ => false, Nat.zero_le _, rfl, Lib.hid (fun x => by rw [Fo.drop_zero, Bool.false_or]), HR.out, HB.out⟩
  case round =>
    clear HR HB
    obtain ⟨j, S, hj, rfl, HF, hr, hb⟩ := hrel
    by_cases hlt : j < f.len
    · obtain ⟨o1, n1, k1, e1, s1, _⟩ := Fo.drop_of_lt f j hlt
      have j1 := (HL.out.below hb).at_ j
      rw [Nat.zero_add, e1] at j1
      obtain ⟨⟨b, o, A1, c1, hA, _, hbb, _, _, g1, g2, g3, hk1, hk2, x1⟩, _⟩ := j1
      subst hA
      have HE := Lib.hid (show ∀ x, usedF ds f x = (S x || (fromS ds o1 n1 k1 x || usedF ds (f.drop (j + 1)) x)) from fun x => by rw [HF.out x, usedF_cons e1])
      have HC := Lib.hid (show Calls Tryz.prog 26 _ wr (FromPost (fromS ds o1 n1 k1) wr) from l2From_any ds DA DC o1 n1 k1 A1 c1 wr (HD.out.up hb) (x1.mono_ (Nat.le_refl _) hb.size) hdz (by omega))
      obtain ⟨F, hF⟩ : ∃ F, F = fromS ds o1 n1 k1 := ⟨_, rfl⟩
      rw [← hF] at HE HC
      have HB := Lib.hid hb
      have HR := Lib.hid hr
      clear e1 x1 hb hr HF hF
      obtain ⟨wo, rfl⟩ : ∃ wo : World, wo = wr := ⟨_, rfl⟩
      go_wp2_with fail
      refine HC.out.mono ?_
      rintro e w3 ⟨g, rfl, hg, hgz, hb3⟩
      have HB3 := Lib.hid (HB.out.trans (hb3.mono HB.out.size))
      have HR3 := Lib.hid (HR.out.below hb3 HR.out.size)
      have HG := Lib.hid hg
      have hgz2 : w.heap.size ≤ g := Nat.le_trans HB.out.size hgz
      have hgn : w.heap.size ≠ g := by have := HR.out.size; omega
      clear hb3 g1 g2 g3 HC hg
      go_wp2_with fail
      go_loopw [8] (fun i wr => ∃ (q : Nat), q ≤ 8 ∧ i = .int .i64 (q : Int) ∧ Row wr w.heap.size 4 (cells8 fun x => S x || (decide (x < q) && F x)) ∧ Row wr g 4 (cells8 F) ∧ Below w.heap.size w wr)
        (fun i _ => 8 - (intOf i).toNat)
      case atStart => exact ⟨0, Nat.zero_le _, rfl, by
        have : cells8 (fun x => S x || (decide (x < 0) && F x)) = cells8 S := cells8_congr fun i _ => by simp
        rw [this]
        exact HR3.out, HG.out, HB3.out⟩
      case round =>
        clear HR3 HG HB3
        obtain ⟨q, hq, rfl, hr, hg, hb⟩ := hrel
        by_cases hlt8 : q < 8
        · have q1 := hr.cell (cells8_at (fun x => S x || (decide (x < q) && F x)) hlt8)
          have e0 : (S q || (decide (q < q) && F q)) = S q := by simp
          simp only [e0] at q1
          have q2 := hg.cell (cells8_at F hlt8)
          have f1 := hr.free q
          have HPE := Lib.hid (show (cells8 fun x => S x || (decide (x < q) && F x)).setIfInBounds q (.bool (S q || F q)) = cells8 (fun x => S x || (decide (x < q + 1) && F x)) by
            rw [cells8_put _ _ hlt8]
            refine cells8_congr fun i _ => ?_
            by_cases hi : i = q
            · subst hi; simp
            · have : decide (i < q + 1) = decide (i < q) := decide_eq_decide.2 (by omega)
              rw [if_neg hi, this])
          have HR := Lib.hid hr
          have HG := Lib.hid (hg.apart (p := ⟨w.heap.size, q, none⟩) (by simpa using hgn.symm) (.bool (S q || F q)))
          have HB := Lib.hid (hb.setCell (p := ⟨w.heap.size, q, none⟩) (Nat.le_refl _) (.bool (S q || F q)))
          clear hr hg hb e0
          cases hs : S q with
          | true =>
            rw [hs] at q1
            simp only [hs, Bool.true_or] at HPE HG HB
            clear hs
            go_wp2
            go_roundw
            case rel => exact ⟨q + 1, hlt8, by go_num, by rw [← HPE.out]; exact HR.out.put q _, HG.out, HB.out⟩
            case measure => simp [intOf]; omega
          | false =>
            rw [hs] at q1
            simp only [hs, Bool.false_or] at HPE HG HB
            clear hs
            go_wp2
            go_roundw
            case rel => exact ⟨q + 1, hlt8, by go_num, by rw [← HPE.out]; exact HR.out.put q _, HG.out, HB.out⟩
            case measure => simp [intOf]; omega
        · have hqe : q = 8 := by omega
          subst hqe
          have hcg : cells8 (fun x => S x || (decide (x < 8) && F x)) = cells8 (fun x => S x || F x) := cells8_congr fun i hi => by rw [decide_eq_true hi, Bool.true_and]
          rw [hcg] at hr
          have HR := Lib.hid hr
          have HB := Lib.hid hb
          clear hr hb hg hcg
          go_wp2
          go_roundw
          case rel => exact ⟨j + 1, fun x => S x || F x, hlt, by go_num, Lib.hid (fun x => by rw [HE.out x, Bool.or_assoc]), HR.out, HB.out⟩
          case measure => simp [intOf]; omega
    · have hje : j = f.len := by omega
      have hcg : cells8 S = cells8 (usedF ds f) := cells8_congr fun i _ => by
        rw [HF.out i, hje, Fo.drop_len]
        exact (Bool.or_false _).symm
      rw [hcg] at hr
      have HR := Lib.hid hr
      have HB := Lib.hid hb
      clear HF hr hb hje hcg
      go_wp2
      go_ret
      exact ⟨_, rfl, HR.out, Nat.le_refl _, HB.out⟩

set_option maxHeartbeats 2000000 in
theorem specUnused_any (ds : List De) (DA : Option Addr) (DC : Nat) (f : Fo) (A : Option Addr) (c : Nat) (w : World) (hd : LiesD w 0 w.heap.size DA ds) (hl : Lies w 0 w.heap.size A 0 f) (hdz : sizeD ds ≤ 1048576) (hsz : f.size ≤ 1048576) :
    Calls Tryz.prog 7 #[.slice DA ds.length DC, .slice A f.len c] w (ListPost (unusedL ds f) w) := by
  have hds := Nat.le_trans (sizeD_len ds) hdz
  have own0 : (w.alloc (Obj.cells #[] 3)).ownsRow w.heap.size 3 1 (.slice (some ⟨w.heap.size, 0, none⟩) 0 0) 0 [] :=
    ⟨rfl, .inr ⟨w.heap.size, 0, #[], rfl, Nat.le_refl _, heap_alloc_new _ _, Nat.le_refl _, by decide, rfl, rfl⟩⟩
  have hb1 : Below w.heap.size w (w.alloc (Obj.cells #[] 3)) := (Below.refl _ _).alloc (Nat.le_refl _) _
  have HOWN := Lib.hid own0
  have HB1 := Lib.hid hb1
  have HD := Lib.hid hd
  have HRT := Lib.hid (l12Right_any ds DA DC f A c _ (hd.up hb1) (hl.up hb1) hdz hsz)
  have HL := Lib.hid hl
  clear own0 hb1 hd hl
  cases hr : rightB ds f with
  | false =>
    rw [hr] at HRT
    have HZ := Lib.hid (unusedL_no hr)
    clear hr
    go_enter Tryz.func7, Tryz.ntmps7
    go_wp2_with fail
    refine HRT.out.mono ?_
    rintro e w2 ⟨rfl, hb2⟩
    have HB2 := Lib.hid (HB1.out.trans (hb2.mono HB1.out.size))
    have HO2 := Lib.hid (own_below HOWN.out hb2)
    clear hb2
    go_wp2
    go_ret
    exact ⟨_, rfl, by rw [HZ.out]; exact HO2.out, HB2.out⟩
  | true =>
    rw [hr] at HRT
    have hok : libOk ds = true := (Bool.and_eq_true_iff.1 hr).1
    have HZ := Lib.hid (unusedL_yes hr)
    obtain ⟨T, hT⟩ : ∃ T, T = usedF ds f := ⟨_, rfl⟩
    obtain ⟨p, hp⟩ : ∃ p : Int → Bool, p = fun y => !T y.toNat := ⟨_, rfl⟩
    have HU := Lib.hid (fun W (hb : Below w.heap.size w W) => show Calls Tryz.prog 13 _ W (FromPost T W) from hT ▸ l12Used_any ds DA DC f A c W (HD.out.up hb) (HL.out.up hb) hdz hsz)
    have HZ := Lib.hid (show unusedL ds f = (namesD ds).filter p by rw [HZ.out, hp, hT])
    have HP := Lib.hid (show ∀ v : Nat, p (v : Int) = !T v from fun v => by rw [hp]; rfl)
    have HOK := Lib.hid hok
    clear hr hT hp hok
    go_enter Tryz.func7, Tryz.ntmps7
    go_wp2_with fail
    refine HRT.out.mono ?_
    rintro e w2 ⟨rfl, hb2⟩
    have HB2 := Lib.hid (HB1.out.trans (hb2.mono HB1.out.size))
    have HO2 := Lib.hid (own_below HOWN.out hb2)
    have HC := Lib.hid (HU.out w2 HB2.out)
    clear hb2 HRT HOWN HB1 HU
    go_wp2_with fail
    refine HC.out.mono ?_
    rintro e w3 ⟨g, rfl, hg, hgz, hb3⟩
    have HB3 := Lib.hid (HB2.out.trans (hb3.mono HB2.out.size))
    have HO3 := Lib.hid (own_below HO2.out hb3)
    have HG3 := Lib.hid hg
    clear hb3 HC HO2 HB2 hg
    go_wp2_with fail
    go_loopw [5, 7] (fun v i wr => ∃ (j : Nat), j ≤ ds.length ∧ i = .int .i64 j ∧ wr.ownsRow w.heap.size 3 1 v (((namesD ds).take j).filter p).length ((((namesD ds).take j).filter p).map (Value.int .i64)) ∧ Row wr g 4 (cells8 T) ∧ Below w.heap.size w wr)
      (fun _ i _ => ds.length - (intOf i).toNat)
    case atStart => exact ⟨0, by omega, rfl, HO3.out, HG3.out, HB3.out⟩
    case round =>
      clear HO3 HG3 HB3
      obtain ⟨j, hj, rfl, hown, hg, hb⟩ := hrel
      by_cases hlt : j < ds.length
      · have e1 := List.getElem?_eq_getElem hlt
        generalize ds[j] = d at e1
        have hdm := List.mem_of_getElem? e1
        have e2 := namesD_at e1
        have hfl := filter_take_len p (namesD ds) j
        rw [namesD_len] at hfl
        obtain ⟨b, o, A', c', hA, _, hbb, hf, g1, g2, g3, g4, g5, g6, h7, h8, h9⟩ := HD.out.below hb j d e1
        subst hA
        obtain ⟨e0, e8⟩ := inVar_nat (libOk_named HOK.out d hdm).1
        generalize d.nm.toNat = v at e0 e8
        have HFT := Lib.hid (show ∀ z, p (v : Int) = z → ((namesD ds).take (j + 1)).filter p = ((namesD ds).take j).filter p ++ (if z then [(v : Int)] else []) from fun z hz => by
          rw [List.take_add_one, e2, List.filter_append, ← e0]
          cases z <;> simp [hz])
        rw [← e0] at g1
        have qv := hg.cell (cells8_at T e8)
        have HPV := Lib.hid (HP.out v)
        have HO := Lib.hid hown
        have HG := Lib.hid hg
        have HB := Lib.hid hb
        have HG1 := Lib.hid g1
        have hbs : b < wr.heap.size := Nat.lt_of_lt_of_le hbb hb.size
        clear e1 e2 hown hg hb h7 h8 h9 hf g2 g3 g4 g5 g6 hdm e0
        cases ht : T v with
        | true =>
          rw [ht] at qv HPV
          have HN := Lib.hid (HFT.out false HPV.out)
          clear ht HFT
          go_wp2
          go_roundw
          case rel => exact ⟨j + 1, hlt, by go_num, by rw [HN.out]; simpa using HO.out, HG.out, HB.out⟩
          case measure => simp [intOf]; omega
        | false =>
          rw [ht] at qv HPV
          have HN := Lib.hid (HFT.out true HPV.out)
          clear ht HFT
          obtain ⟨iT, hiT, hiz0, hiz1, hiz2⟩ := info_parts (show (Tryz.prog.info? 3).map (fun i => (i.zero, i.size, i.bytes)) = some (some (.int .i64 0), 1, 8) by kernel_rfl)
          have HIT := Lib.hid hiT
          have HIZ0 := Lib.hid hiz0
          have HIZ1 := Lib.hid hiz1
          have HIZ2 := Lib.hid hiz2
          have C1 := Lib.hid (fresh_cells wr 3 #[Value.int .i64 (v : Int)])
          have HC2 := Lib.hid (show ∀ u ∈ [Value.int .i64 (v : Int)], u.oneCell' = true by intro u hu; rw [List.mem_singleton.1 hu]; rfl)
          have HC3 := Lib.hid (show (((namesD ds).take j).filter p).length + 1 ≤ maxLen by unfold maxLen; omega)
          have HC4 := Lib.hid (show ((((namesD ds).take j).filter p).length + 1) * 8 ≤ 140737488355328 by omega)
          have HC5 := Lib.hid (show w.heap.size ≤ (wr.alloc (.cells #[Value.int .i64 (v : Int)] 3)).heap.size by have := HB.out.size; rw [World.size_alloc]; omega)
          have HOA := Lib.hid (HO.out.alloc (.cells #[Value.int .i64 (v : Int)] 3))
          clear hiT hiz0 hiz1 hiz2
          go_wp2_with (at_builtin; refine wpList_append_own_at _ rfl _ _ 27 rfl (w.heap.size) 3 iT _ 1 8 Tryz.underlying27 HIT.out HIZ0.out HIZ1.out HIZ2.out rfl (by decide) _ _ _ rfl HOA.out ⟨wr.heap.size, 0, none⟩ 1 1 [Value.int .i64 (v : Int)] rfl rfl C1.out HC2.out HC3.out HC4.out HC5.out ?_; intro v' w' hown5 hgrow5 _ hblk)
          have hb5 : Below w.heap.size w w' := Below.grown (HB.out.alloc HB.out.size (.cells #[Value.int .i64 (v : Int)] 3)) hgrow5 (Nat.le_trans (by omega) HC5.out) (fun g' hg' => by have := own_at_least HO.out hg'; omega)
          have HO5 := Lib.hid hown5
          have HB5 := Lib.hid hb5

          have hg5 : Row w' g 4 (cells8 T) := (hgrow5.block _ (HG.out.alloc (.cells #[Value.int .i64 (v : Int)] 3)).size (own_other_row (HO.out.alloc (.cells #[Value.int .i64 (v : Int)] 3)) (HG.out.alloc (.cells #[Value.int .i64 (v : Int)] 3)) (by decide))).trans (HG.out.alloc (.cells #[Value.int .i64 (v : Int)] 3))
          have HG5 := Lib.hid hg5
          clear hown5 hgrow5 hblk hb5 g1 qv hg5
          go_wp2_with fail
          go_roundw
          case rel =>
            refine ⟨j + 1, hlt, by go_num, ?_, HG5.out, HB5.out⟩
            rw [HN.out, if_pos rfl, List.length_append, List.map_append]
            exact HO5.out
          case measure => simp [intOf]; omega
      · have e9 : j = ds.length := by omega
        have HE := Lib.hid (show (namesD ds).take j = namesD ds from List.take_of_length_le (by rw [namesD_len]; omega))
        have HO := Lib.hid hown
        have HB := Lib.hid hb
        clear hown hb hg
        go_wp2
        go_ret
        exact ⟨_, rfl, by rw [HZ.out, ← HE.out]; exact HO.out, HB.out⟩
end Go.Proofs.YtpknegneogdmfaaGreat

namespace Go.Proofs.YtpknegneogdmfaaGreat
open Go.RowKit Go.Shelf
set_option maxRecDepth 100000

theorem bit_union (S T : Nat → Bool) : bits .or .u8 (bv S : Int) (bv T : Int) = ((bv (fun i => S i || T i) : Nat) : Int) := by
  rw [u8_or_nat _ _ (bv_lt S) (bv_lt T), bv_union]
def usedV (ds : List De) (f : Fo) : Int := if rightB ds f then (bv (usedF ds f) : Int) else 0
theorem usedV_no {ds : List De} {f : Fo} (h : rightB ds f = false) : usedV ds f = 0 := by unfold usedV; rw [h]; rfl
theorem usedV_yes {ds : List De} {f : Fo} (h : rightB ds f = true) : usedV ds f = (bv (usedF ds f) : Int) := by unfold usedV; rw [h]; rfl
def UsedPost (ds : List De) (f : Fo) (w : World) (e : Ending) (w' : World) : Prop := e = .returned (.tuple #[.int .u8 (usedV ds f), .bool (rightB ds f)]) ∧ Below w.heap.size w w'

set_option maxHeartbeats 2000000 in
theorem usedBy_r (ds : List De) (DA : Option Addr) (DC : Nat) (f : Fo) (A : Option Addr) (c LD BD L B : Nat) (w : World) (hd : LiesD w LD BD DA ds) (hBD : BD ≤ w.heap.size) (hl : Lies w L B A 0 f) (hB : B ≤ w.heap.size) (hdz : sizeD ds ≤ 1048576) (hsz : f.size ≤ 1048576) :
    Calls Tryz.prog 10 #[.slice DA ds.length DC, .slice A f.len c] w (UsedPost ds f w) := by
  have hfl := Fo.len_le_size f
  by_cases h10 : f.len ≤ 10
  · have HV := Lib.hid (implLibValid_r ds DA DC LD BD w hd hBD hdz)
    have hi10 : ¬ (10 : Int) < (f.len : Int) := by omega
    have HD := Lib.hid hd
    have HL := Lib.hid hl
    clear hd hl
    cases hv : libOk ds with
    | false =>
      rw [hv] at HV
      have HR := Lib.hid (show rightB ds f = false by unfold rightB; rw [hv]; rfl)
      clear hv
      go_enter Tryz.func10, Tryz.ntmps10
      go_wp2_with fail
      refine HV.out.mono ?_
      rintro e w2 ⟨rfl, hb2⟩
      have HB2 := Lib.hid hb2
      clear hb2
      go_wp2
      refine bodyPost_ret (v := .tuple #[.int .u8 0, .bool false]) ?_ rfl ⟨by rw [usedV_no HR.out, HR.out], HB2.out⟩
      simp [results, Tryz.f10, go_sem]
    | true =>
      rw [hv] at HV
      have HR := Lib.hid (right_len hv h10)
      have HOK := Lib.hid hv
      clear hv
      go_enter Tryz.func10, Tryz.ntmps10
      go_wp2_with fail
      refine HV.out.mono ?_
      rintro e w2 ⟨rfl, hb2⟩
      have HB2 := Lib.hid hb2
      clear hb2 HV
      go_wp2_with fail
      go_loopw [6, 19] (fun u i wr => ∃ (j : Nat) (S : Nat → Bool), j ≤ f.len ∧ i = .int .i64 (j : Int) ∧ u = .int .u8 (bv S : Int) ∧ Hid (clientsOk ds f = clientsOk ds (f.drop j)) ∧ Hid (∀ x, usedF ds f x = (S x || usedF ds (f.drop j) x)) ∧ Below w.heap.size w wr)
        (fun _ i _ => f.len - (intOf i).toNat)
      case atStart => exact ⟨0, fun _ => false, Nat.zero_le _, rfl, rfl, Lib.hid (by rw [Fo.drop_zero]), Lib.hid (fun x => by rw [Fo.drop_zero, Bool.false_or]), HB2.out⟩
      case round =>
        clear HB2
        obtain ⟨j, S, hj, rfl, rfl, HF, HG, hb⟩ := hrel
        by_cases hlt : j < f.len
        · have hji : (j : Int) < (f.len : Int) := by omega
          obtain ⟨o1, n1, k1, e1, s1, _⟩ := Fo.drop_of_lt f j hlt
          have j1 := (HL.out.below (hb.mono hB)).at_ j
          rw [Nat.zero_add, e1] at j1
          obtain ⟨⟨b, o, A1, c1, hA, _, hbb, _, _, g1, g2, g3, hk1, hk2, x1⟩, _⟩ := j1
          subst hA
          have HE := Lib.hid (HF.out.trans (clientsOk_cons e1))
          have HX := Lib.hid (show ∀ x, usedF ds f x = (S x || (fromS ds o1 n1 k1 x || usedF ds (f.drop (j + 1)) x)) from fun x => by rw [HG.out x, usedF_cons e1])
          obtain ⟨bA, rA⟩ := one_box wr 36 #[Value.int .i64 o1, Value.int .i64 n1, Value.slice A1 k1.len c1]
          have hbA := hb.trans (bA.mono hb.size)
          have HBA := Lib.hid hbA
          have HRA := Lib.hid rA
          have HL1 := Lib.hid (x1.below (bA.mono (Nat.le_trans hB hb.size)))
          have HBz := Lib.hid (show B ≤ (wr.alloc (Obj.cells #[Value.int .i64 o1, Value.int .i64 n1, Value.slice A1 k1.len c1] 36)).heap.size from Nat.le_trans hB hbA.size)
          have HC := Lib.hid (show Calls Tryz.prog 20 _ _ (Gives (.bool (clientB ds o1 n1 k1)) _) from implClient_r ds DA DC o1 n1 k1 A1 c1 LD BD L B _ (HD.out.below (hbA.mono hBD)) (Nat.le_trans hBD hbA.size) HL1.out HBz.out hdz hk1 hk2 (by omega))
          rw [← client_is HOK.out] at HC
          have hks : k1.size ≤ 1048576 := by omega
          have q0 := rA.cell (i := 0) rfl
          have q1 := rA.cell (i := 1) rfl
          have q2 := rA.cell (i := 2) rfl
          clear e1 x1 hb HF HG bA rA hbA s1 hbb
          cases hc : (nodeIs o1 n1 k1 (firstS 0) && fitN (ariS ds) o1 n1 k1) with
          | true =>
            rw [hc] at HC HE
            rw [Bool.true_and] at HE
            have HFL := Lib.hid (fromL_yes HOK.out (client_fits hc))
            clear hc
            go_wp2_with fail
            refine HC.out.mono ?_
            rintro e w3 ⟨rfl, hb3⟩
            have HB3 := Lib.hid (HBA.out.trans (hb3.mono HBA.out.size))
            have r3 := HRA.out.below hb3 HRA.out.size
            have q0 := r3.cell (i := 0) rfl
            have q1 := r3.cell (i := 1) rfl
            have q2 := r3.cell (i := 2) rfl
            have HQ := Lib.hid (implFrom_r ds DA DC o1 n1 k1 A1 c1 LD BD L B w3 (HD.out.below (HB3.out.mono hBD)) (Nat.le_trans hBD HB3.out.size) (HL1.out.below (hb3.mono HBz.out)) (Nat.le_trans HBz.out hb3.size) hdz hk1 hk2 hks)
            rw [HFL.out] at HQ
            clear hb3 g1 g2 g3 HC HFL HBA r3
            go_wp2_with fail
            refine HQ.out.mono ?_
            rintro e w4 ⟨v4, rfl, ho4, hb4⟩
            obtain ⟨A4, c4, rfl, hI4⟩ := own_ints ho4 (fun y hy => numsUpto_small _ 8 y (Nat.le_refl _) hy)
            have HB4 := Lib.hid (HB3.out.trans (hb4.mono HB3.out.size))
            have HT := Lib.hid (bitsOf_any (numsUpto (fromS ds o1 n1 k1) 8) A4 c4 w4 (hI4.mono_ (Nat.zero_le _) (Nat.le_refl _)) (Nat.le_trans (numsUpto_len _ 8) (by decide)) (nums_in _))
            rw [bv_nums] at HT
            have HU := Lib.hid (bit_union S (fromS ds o1 n1 k1))
            clear hb4 ho4 hI4 HQ HB3 q0 q1 q2
            go_wp2_with fail
            refine HT.out.mono ?_
            rintro e w5 ⟨rfl, rfl⟩
            clear HT
            go_wp2_with fail
            go_roundw
            case rel => exact ⟨j + 1, fun x => S x || fromS ds o1 n1 k1 x, hlt, by go_num, by rw [← HU.out], HE, Lib.hid (fun x => by rw [HX.out x, Bool.or_assoc]), HB4.out⟩
            case measure => simp [intOf]; omega
          | false =>
            rw [hc] at HC HE
            rw [Bool.false_and] at HE
            clear hc
            go_wp2_with fail
            refine HC.out.mono ?_
            rintro e w3 ⟨rfl, hb3⟩
            have HB3 := Lib.hid (HBA.out.trans (hb3.mono HBA.out.size))
            clear hb3 g1 g2 g3 HC q0 q1 q2
            have HR2 := Lib.hid (HR.out.trans HE.out)
            go_wp2
            refine bodyPost_ret (v := .tuple #[.int .u8 0, .bool false]) ?_ rfl ⟨by rw [usedV_no HR2.out, HR2.out], HB3.out⟩
            simp [results, Tryz.f10, go_sem]
        · have hje : j = f.len := by omega
          have hji : ¬ (j : Int) < (f.len : Int) := by omega
          have HR2 := Lib.hid (show rightB ds f = true by rw [HR.out, HF.out, hje, Fo.drop_len]; rfl)
          have HU := Lib.hid (show bv S = bv (usedF ds f) from bv_congr fun i _ => by
            rw [HG.out i, hje, Fo.drop_len]
            exact (Bool.or_false _).symm)
          have HB := Lib.hid hb
          clear HF HG hb hje
          go_wp2
          refine bodyPost_ret (v := .tuple #[.int .u8 (bv S : Int), .bool true]) ?_ rfl ⟨by rw [usedV_yes HR2.out, HR2.out, ← HU.out], HB.out⟩
          simp [results, Tryz.f10, go_sem]
  · have HR := Lib.hid (show rightB ds f = false by unfold rightB; rw [decide_eq_false h10, Bool.false_and, Bool.and_false])
    have hi10 : (10 : Int) < (f.len : Int) := by omega
    clear hd hl
    go_enter Tryz.func10, Tryz.ntmps10
    go_wp2
    refine bodyPost_ret (v := .tuple #[.int .u8 0, .bool false]) ?_ rfl ⟨by rw [usedV_no HR.out, HR.out], Below.refl _ _⟩
    simp [results, Tryz.f10, go_sem]

set_option maxHeartbeats 2000000 in
theorem implUnused_r (ds : List De) (DA : Option Addr) (DC : Nat) (f : Fo) (A : Option Addr) (c LD BD L B : Nat) (w : World) (hd : LiesD w LD BD DA ds) (hBD : BD ≤ w.heap.size) (hl : Lies w L B A 0 f) (hB : B ≤ w.heap.size) (hdz : sizeD ds ≤ 1048576) (hsz : f.size ≤ 1048576) :
    Calls Tryz.prog 5 #[.slice DA ds.length DC, .slice A f.len c] w (ListPost (unusedL ds f) w) := by
  have hds := Nat.le_trans (sizeD_len ds) hdz
  have HC := Lib.hid (usedBy_r ds DA DC f A c LD BD L B w hd hBD hl hB hdz hsz)
  have HD := Lib.hid hd
  clear hd hl
  cases hr : rightB ds f with
  | false =>
    have HZ := Lib.hid (unusedL_no hr)
    have HR := Lib.hid hr
    clear hr
    go_enter Tryz.func5, Tryz.ntmps5
    go_wp2_with fail
    refine HC.out.mono ?_
    rintro e w2 ⟨rfl, hb2⟩
    rw [HR.out]
    have HB2 := Lib.hid hb2
    clear hb2 HC
    go_wp2
    go_ret
    exact ⟨_, rfl, by rw [HZ.out]; exact World.ownsRow_nil _ _ _ _, HB2.out⟩
  | true =>
    have hok : libOk ds = true := (Bool.and_eq_true_iff.1 hr).1
    have HZ := Lib.hid (unusedL_yes hr)
    have HR := Lib.hid hr
    have HUV := Lib.hid (usedV_yes hr)
    obtain ⟨T, hT⟩ : ∃ T, T = usedF ds f := ⟨_, rfl⟩
    obtain ⟨p, hp⟩ : ∃ p : Int → Bool, p = fun y => !T y.toNat := ⟨_, rfl⟩
    have HZ := Lib.hid (show unusedL ds f = (namesD ds).filter p by rw [HZ.out, hp, hT])
    have HP := Lib.hid (show ∀ v : Nat, p (v : Int) = !T v from fun v => by rw [hp]; rfl)
    rw [← hT] at HUV
    have HOK := Lib.hid hok
    clear hr hT hp hok
    go_enter Tryz.func5, Tryz.ntmps5
    go_wp2_with fail
    refine HC.out.mono ?_
    rintro e w2 ⟨rfl, hb2⟩
    rw [HR.out, HUV.out]
    have HB2 := Lib.hid hb2
    clear hb2 HC
    go_wp2_with fail
    go_loopw [7, 20] (fun v i wr => ∃ (j : Nat), j ≤ ds.length ∧ i = .int .i64 j ∧ wr.ownsRow w.heap.size 3 1 v (((namesD ds).take j).filter p).length ((((namesD ds).take j).filter p).map (Value.int .i64)) ∧ Below w.heap.size w wr)
      (fun _ i _ => ds.length - (intOf i).toNat)
    case atStart => exact ⟨0, by omega, rfl, World.ownsRow_nil _ _ _ _, HB2.out⟩
    case round =>
      clear HB2
      obtain ⟨j, hj, rfl, hown, hb⟩ := hrel
      by_cases hlt : j < ds.length
      · have hji : (j : Int) < (ds.length : Int) := by omega
        have e1 := List.getElem?_eq_getElem hlt
        generalize ds[j] = d at e1
        have hdm := List.mem_of_getElem? e1
        have e2 := namesD_at e1
        have hfl := filter_take_len p (namesD ds) j
        rw [namesD_len] at hfl
        obtain ⟨b, o, A', c', hA, _, hbb, hf, g1, g2, g3, g4, g5, g6, h7, h8, h9⟩ := (HD.out.below (hb.mono hBD)) j d e1
        subst hA
        obtain ⟨e0, e8⟩ := inVar_nat (libOk_named HOK.out d hdm).1
        have HE0 := Lib.hid e0
        obtain ⟨v, hv⟩ : ∃ v, v = d.nm.toNat := ⟨_, rfl⟩
        rw [← hv] at e0 e8
        have HFT := Lib.hid (show ∀ z, p (v : Int) = z → ((namesD ds).take (j + 1)).filter p = ((namesD ds).take j).filter p ++ (if z then [(v : Int)] else []) from fun z hz => by
          rw [List.take_add_one, e2, List.filter_append, ← e0]
          cases z <;> simp [hz])
        rw [← e0] at g1
        have HPV := Lib.hid (HP.out v)
        obtain ⟨C, hC⟩ : ∃ C, C = Obj.cells #[Value.int IntKind.i64 (v : Int), Value.int IntKind.i64 d.ar, Value.bool d.old, Value.int IntKind.i64 d.op, Value.int IntKind.i64 d.n, Value.slice A' d.k.len c'] 38 := ⟨_, rfl⟩
        have hbd : Below w.heap.size w (wr.alloc C) := hb.alloc hb.size C
        have hod := hown.alloc C
        have hrd : Row (wr.alloc C) wr.heap.size 38 #[Value.int IntKind.i64 (v : Int), Value.int IntKind.i64 d.ar, Value.bool d.old, Value.int IntKind.i64 d.op, Value.int IntKind.i64 d.n, Value.slice A' d.k.len c'] := by
          rw [hC]
          exact Row.fresh _ _ _
        have hH := bitsHas_any T (v : Int) (wr.alloc C)
        rw [inVar_mk (by omega) (by omega), Bool.true_and, Int.toNat_natCast] at hH
        have HC := Lib.hid hC
        rw [hC] at hbd hod hrd hH
        have q0 := hrd.cell (i := 0) rfl
        have HH := Lib.hid hH
        have HO := Lib.hid hod
        have HB := Lib.hid hbd
        have HRD := Lib.hid hrd
        clear e1 e2 hown hb h7 h8 h9 hf hdm e0 hv hbd hod hrd hH hC
        cases ht : T v with
        | true =>
          rw [ht] at HH HPV
          have HN := Lib.hid (HFT.out false HPV.out)
          clear ht HFT
          go_wp2_with fail
          refine HH.out.mono ?_
          rintro e w3 ⟨rfl, rfl⟩
          go_wp2_with fail
          go_roundw
          case rel => exact ⟨j + 1, hlt, by go_num, by rw [HN.out]; simpa using HO.out, HB.out⟩
          case measure => simp [intOf]; omega
        | false =>
          rw [ht] at HH HPV
          have HN := Lib.hid (HFT.out true HPV.out)
          clear ht HFT
          go_wp2_with fail
          refine HH.out.mono ?_
          rintro e w3 ⟨rfl, rfl⟩
          obtain ⟨w3, hw3⟩ : ∃ w3, w3 = wr.alloc (Obj.cells #[Value.int IntKind.i64 (v : Int), Value.int IntKind.i64 d.ar, Value.bool d.old, Value.int IntKind.i64 d.op, Value.int IntKind.i64 d.n, Value.slice A' d.k.len c'] 38) := ⟨_, rfl⟩
          rw [← hw3] at HO HB q0 ⊢
          have HW := Lib.hid hw3
          clear hw3 g1 g2 g3 g4 g5 g6 HH
          obtain ⟨iT, hiT, hiz0, hiz1, hiz2⟩ := info_parts (show (Tryz.prog.info? 3).map (fun i => (i.zero, i.size, i.bytes)) = some (some (.int .i64 0), 1, 8) by kernel_rfl)
          have HIT := Lib.hid hiT
          have HIZ0 := Lib.hid hiz0
          have HIZ1 := Lib.hid hiz1
          have HIZ2 := Lib.hid hiz2
          have C1 := Lib.hid (fresh_cells w3 3 #[Value.int .i64 (v : Int)])
          have HC2 := Lib.hid (show ∀ u ∈ [Value.int .i64 (v : Int)], u.oneCell' = true by intro u hu; rw [List.mem_singleton.1 hu]; rfl)
          have HC3 := Lib.hid (show (((namesD ds).take j).filter p).length + 1 ≤ maxLen by unfold maxLen; omega)
          have HC4 := Lib.hid (show ((((namesD ds).take j).filter p).length + 1) * 8 ≤ 140737488355328 by omega)
          have HC5 := Lib.hid (show w.heap.size ≤ (w3.alloc (.cells #[Value.int .i64 (v : Int)] 3)).heap.size by have := HB.out.size; rw [World.size_alloc]; omega)
          have HOA := Lib.hid (HO.out.alloc (.cells #[Value.int .i64 (v : Int)] 3))
          clear hiT hiz0 hiz1 hiz2
          go_wp2_with (at_builtin; refine wpList_append_own_at _ rfl _ _ 27 rfl (w.heap.size) 3 iT _ 1 8 Tryz.underlying27 HIT.out HIZ0.out HIZ1.out HIZ2.out rfl (by decide) _ _ _ rfl HOA.out ⟨w3.heap.size, 0, none⟩ 1 1 [Value.int .i64 (v : Int)] rfl rfl C1.out HC2.out HC3.out HC4.out HC5.out ?_; intro v' w' hown5 hgrow5 _ hblk)
          have hb5 : Below w.heap.size w w' := Below.grown (HB.out.alloc HB.out.size (.cells #[Value.int .i64 (v : Int)] 3)) hgrow5 (Nat.le_trans (by omega) HC5.out) (fun g' hg' => by have := own_at_least HO.out hg'; omega)
          have HO5 := Lib.hid hown5
          have HB5 := Lib.hid hb5

          clear hown5 hgrow5 hblk hb5 q0
          go_wp2_with fail
          go_roundw
          case rel =>
            refine ⟨j + 1, hlt, by go_num, ?_, HB5.out⟩
            rw [HN.out]
            simpa using HO5.out
          case measure => simp [intOf]; omega
      · have e9 : j = ds.length := by omega
        have hji : ¬ (j : Int) < (ds.length : Int) := by omega
        have HE := Lib.hid (show (namesD ds).take j = namesD ds from List.take_of_length_le (by rw [namesD_len]; omega))
        have HO := Lib.hid hown
        have HB := Lib.hid hb
        clear hown hb
        go_wp2
        go_ret
        exact ⟨_, rfl, by rw [HZ.out, ← HE.out]; exact HO.out, HB.out⟩
end Go.Proofs.YtpknegneogdmfaaGreat

namespace Go.Proofs.YtpknegneogdmfaaGreat
open Go.RowKit Go.Shelf
set_option maxRecDepth 100000

/-- A library and a list of expressions. -/
def Case12Post (w : World) (e : Ending) (w' : World) : Prop :=
  ∃ (ds : List De) (X : Option Addr) (c : Nat) (f : Fo) (Y : Option Addr) (cy : Nat), e = .returned (.tuple #[.slice X ds.length c, .slice Y f.len cy]) ∧
    (LiesD w' w.heap.size w'.heap.size X ds ∧ ds.length ≤ 100 ∧ sizeD ds ≤ 1048576) ∧ Lies w' w.heap.size w'.heap.size Y 0 f ∧ f.len ≤ cy ∧ cy ≤ maxLen ∧ f.size ≤ 1000000 ∧ Below w.heap.size w w'

set_option maxHeartbeats 4000000 in
theorem l12Case_any (A : Option Addr) (bc : Nat) (bs : List Nat) (w : World) (hB : LiesY w 0 w.heap.size A bs) (hl : bs.length ≤ bc) (hc : bc ≤ maxLen) :
    Calls Tryz.prog 9 #[.slice A bs.length bc] w (Case12Post w) := by
  have HCO := Lib.hid (open_any A bc bs w hB hl hc)
  clear hB
  go_enter Tryz.func9, Tryz.ntmps9
  go_wp2_with fail
  refine HCO.out.mono ?_
  rintro e w2 ⟨bs2, hl2, rfl, hY2, hr2, hb2, hz2⟩
  obtain ⟨Q, hQ⟩ := lim_ex bs2 hl2 hY2.bytes
  have HC := Lib.hid (l2Draw_any w.heap.size w.heap.size A bc bs2 Q 0 0 w2 hr2 hY2 (Nat.le_refl _) hl2 hQ (Ok.first hQ) (by decide))
  -- what every later world keeps
  have HK := Lib.hid (show ∀ V, Only w.heap.size w2.heap.size w2 V → LiesY V 0 w.heap.size A bs2 ∧ Below w.heap.size w V ∧ w2.heap.size ≤ V.heap.size from fun V hV =>
    ⟨hY2.below ((hV.mono hb2.size).below (Nat.le_refl _)), hb2.trans ((hV.mono hb2.size).below (Nat.le_refl _)), hV.size⟩)
  have HZ2 := Lib.hid hz2
  clear hY2 hr2 hb2 hz2 HCO
  go_wp2_with fail
  refine HC.out.mono ?_
  rintro e w3 ⟨v3, ds, bl3, p3, rfl, hlok, ht3, hr3, hok3, hon3⟩
  obtain ⟨X3, c3, rfl, hc1, hc2⟩ := ht3.slice
  have hlen := libOk_len hlok
  have hsz : sizeD ds ≤ 1700 := by
    have h1 := sizeD_bound (m := 200) ds fun d hd => by
      have := small_le80 (libOk_small hlok d hd)
      omega
    have h2 : ds.length * (200 + 1) ≤ 8 * (200 + 1) := Nat.mul_le_mul_right _ hlen
    omega
  have har3 : ∀ d ∈ ds, d.ar ≤ 3 := fun d hd => by
    unfold libOk at hlok
    rw [Bool.and_eq_true] at hlok
    have h := okL_ar ds none hlok.2 d hd
    unfold arOk at h
    rw [Bool.and_eq_true] at h
    exact of_decide_eq_true h.2
  have hlt := ht3.lt
  have HL3 := Lib.hid ((ht3.lies (B := w3.heap.size) fun z hz => (hlt z hz).2).mono_ HZ2.out (Nat.le_refl _))
  have HO3 := Lib.hid hon3
  have HAR := Lib.hid har3
  have HSZ := Lib.hid hsz
  have hgz3 : w.heap.size < w3.heap.size := Row.size hr3
  -- the empty list of clients
  obtain ⟨W4, hW4⟩ : ∃ W4, W4 = w3.alloc (Obj.cells #[] 36) := ⟨_, rfl⟩
  have hb4 : Below w3.heap.size w3 W4 := by rw [hW4]; exact (Below.refl _ _).alloc (Nat.le_refl _) _
  have ho4 : W4.ownsRow w3.heap.size 36 3 (.slice (some ⟨w3.heap.size, 0, none⟩) 0 0) 0 [] := by
    rw [hW4]
    exact ⟨rfl, .inr ⟨w3.heap.size, 0, #[], rfl, Nat.le_refl _, heap_alloc_new _ _, Nat.le_refl _, by decide, rfl, rfl⟩⟩
  have HT4 := Lib.hid (show Tree W4 w3.heap.size (.slice (some ⟨w3.heap.size, 0, none⟩) (Fo.nil).len 0) .nil [w3.heap.size] from ⟨[], [], ho4, ⟨rfl, rfl⟩, rfl, by simp⟩)
  have HR4 := Lib.hid (show Rd W4 w.heap.size A bc bs2 p3 from Row.below hr3 hb4 hgz3)
  have HON4 := Lib.hid (show Only w.heap.size w3.heap.size w3 W4 from .of_below hb4)
  have HOK4 := Lib.hid hok3
  clear ht3 hr3 hok3 hon3 hlt HC hlok har3 ho4
  go_upto_region 4 with fail
  rw [← hW4]
  clear hW4 hb4
  have HP := Lib.hid (pick_v w.heap.size w.heap.size A bc bs2 p3 4 W4 HR4.out (HK.out _ (HO3.out.trans (HON4.out.mono HO3.out.size))).1 (Nat.le_refl _) hl2 (HOK4.out.pb hQ) (by decide) (by decide))
  go_wp2_with fail
  refine HP.out.mono ?_
  rintro e w5 ⟨rfl, hr5, hon5⟩
  have hx4 := pkL_lt bs2 p3 (show 1 ≤ 4 by decide)
  obtain ⟨x, hx⟩ : ∃ x, x = pkL bs2 p3 4 := ⟨_, rfl⟩
  rw [← hx] at hx4 ⊢
  have HR5 := Lib.hid (show Rd w5 w.heap.size A bc bs2 (p3 + 1) from hr5)
  have HT5 := Lib.hid (HT4.out.keep fun z hz => hon5.block z (HT4.out.lt z hz).2 (by have := (HT4.out.lt z hz).1; omega))
  have HON5 := Lib.hid (HON4.out.trans (hon5.mono HON4.out.size))
  have HOK5 := Lib.hid (HOK4.out.next hQ (by decide))
  clear hx hr5 hon5 HP HR4 HT4 HON4 HOK4
  go_wp2_with fail
  go_loopw [6, 7] (fun v i wr => ∃ (j : Nat) (pr : Fo) (A1 : Option Addr) (c1 : Nat) (bl : List Nat) (q : Nat), j ≤ 3 ∧ i = .int .i64 (j : Int) ∧ v = .slice A1 pr.len c1 ∧ pr.len + j ≤ 3 ∧ Tree wr w3.heap.size (.slice A1 pr.len c1) pr bl ∧
      pr.size ≤ pr.len * nodesD 2 ∧ Rd wr w.heap.size A bc bs2 q ∧ Ok bs2 Q q (0 + 1 + 1 + pr.len * costD 2) ∧ Only w.heap.size w3.heap.size w3 wr)
    (fun _ i _ => (intOf i).toNat)
  case atStart => exact ⟨x, .nil, some ⟨w3.heap.size, 0, none⟩, 0, _, p3 + 1, by omega, rfl, rfl, by simp [Fo.len]; omega, HT5.out, by simp [Fo.size], HR5.out, HOK5.out.mono (by simp [Fo.len]), HON5.out⟩
  case round =>
    clear HR5 HT5 HON5 HOK5
    obtain ⟨j, pr, A1, c1', bl, q, hj, rfl, rfl, hpl, ht, hps, hrd, hq, hon⟩ := hrel
    by_cases hj0 : j = 0
    · have hji : ¬ (0 : Int) < (j : Int) := by omega
      have HT := Lib.hid ht
      have HON := Lib.hid hon
      have HRD := Lib.hid hrd
      have HOK := Lib.hid hq
      have HPS := Lib.hid (show pr.size ≤ 1000 by
        have h1 : pr.len * nodesD 2 ≤ 3 * nodesD 2 := Nat.mul_le_mul_right _ (by omega)
        have h2 : 3 * nodesD 2 ≤ 1000 := by decide
        omega)
      have HPC := Lib.hid (show (0 : Int) + 1 + 1 + pr.len * costD 2 ≤ 1000 by
        have h1 : pr.len * costD 2 ≤ 3 * costD 2 := Nat.mul_le_mul_right _ (by omega)
        have h2 : 3 * costD 2 ≤ 900 := by decide
        omega)
      have HLEN := Lib.hid hpl
      clear ht hps hrd hq hon
      have HO2 := Lib.hid (HO3.out.trans (HON.out.mono HO3.out.size))
      have HP := Lib.hid (pick_v w.heap.size w.heap.size A bc bs2 q 10 wr HRD.out (HK.out _ HO2.out).1 (Nat.le_refl _) hl2 (HOK.out.pb hQ) (by decide) (by decide))
      go_wp2_with fail
      refine HP.out.mono ?_
      rintro e w8 ⟨rfl, hr8, hon8⟩
      obtain ⟨y, hy⟩ : ∃ y, y = pkL bs2 q 10 := ⟨_, rfl⟩
      rw [← hy]
      have HR8 := Lib.hid (show Rd w8 w.heap.size A bc bs2 (q + 1) from hr8)
      have HOK8 := Lib.hid (HOK.out.next hQ (by have := HPC.out; omega))
      have HT8 := Lib.hid (HT.out.keep fun z hz => hon8.block z (HT.out.lt z hz).2 (by have := (HT.out.lt z hz).1; omega))
      have HON8 := Lib.hid (HON.out.trans (hon8.mono HON.out.size))
      have HL8 := Lib.hid (show LiesD w8 (w.heap.size + 1) w8.heap.size X3 ds from HL3.out.keep (Nat.le_refl _) HON8.out.size fun p h1 h2 => HON8.out.cell h2 (by omega))
      have HB8 := Lib.hid (HK.out _ (HO3.out.trans (HON8.out.mono HO3.out.size)))
      clear hy hr8 hon8 HP HRD HOK HT HO2
      obtain ⟨_, _, hY1, hk1, hk2⟩ := HT8.out.slice
      injection hY1 with hYa hYb hY3
      subst hY3
      clear hYa hYb
      by_cases hy0 : y = 0
      · have h0 : ((y : Int) == 0) = true := by simp; omega
        have HM := Lib.hid (l2Mutate_any w.heap.size w.heap.size A bc bs2 Q (q + 1) (0 + 1 + 1 + pr.len * costD 2 + 1) ds X3 c3 (w.heap.size + 1) w8 HR8.out HB8.out.1 (Nat.le_refl _) hl2 hQ HOK8.out (by have := HPC.out; omega) (Nat.lt_succ_self _) (by have := HON8.out.size; omega) HL8.out (by omega) (by have := HSZ.out; omega))
        clear hy0
        go_wp2_with fail
        refine HM.out.mono ?_
        rintro e w9 ⟨ds9, X9, c9, p9, rfl, hl9, hc9, hc9b, hn9, hs9, hr9, hok9, hon9⟩
        have hT9 := HT8.out.keep fun z hz => hon9.block z (HT8.out.lt z hz).2 (by have := (HT8.out.lt z hz).1; omega)
        have HPOST := Lib.hid (show Case12Post w (.returned (.tuple #[.slice X9 ds9.length c9, .slice A1 pr.len c1'])) w9 from
          ⟨ds9, X9, c9, pr, A1, c1', rfl, ⟨hl9.mono_ (Nat.le_succ _) (Nat.le_refl _), by omega, by have := HSZ.out; have := hok9.lt; have := hQ.1; omega⟩, (hT9.lies (B := w9.heap.size) fun z hz => (hT9.lt z hz).2).mono_ (by omega) (Nat.le_refl _), hk1, hk2, by have := HPS.out; omega,
            (HK.out _ (HO3.out.trans ((HON8.out.trans (hon9.mono HON8.out.size)).mono HO3.out.size))).2.1⟩)
        clear hl9 hc9 hc9b hn9 hs9 hr9 hok9 hon9 hT9
        go_wp2_with fail
        refine bodyPost_ret (v := .tuple #[.slice X9 ds9.length c9, .slice A1 pr.len c1']) ?_ rfl HPOST.out
        simp [results, Tryz.f9, go_sem]
      · have h0 : ((y : Int) == 0) = false := by simp; omega
        have HPOST := Lib.hid (show Case12Post w (.returned (.tuple #[.slice X3 ds.length c3, .slice A1 pr.len c1'])) w8 from
          ⟨ds, X3, c3, pr, A1, c1', rfl, ⟨HL8.out.mono_ (Nat.le_succ _) (Nat.le_refl _), by omega, by have := HSZ.out; omega⟩, (HT8.out.lies (B := w8.heap.size) fun z hz => (HT8.out.lt z hz).2).mono_ (by omega) (Nat.le_refl _), hk1, hk2, by have := HPS.out; omega, HB8.out.2.1⟩)
        clear hy0
        go_wp2_with fail
        refine bodyPost_ret (v := .tuple #[.slice X3 ds.length c3, .slice A1 pr.len c1']) ?_ rfl HPOST.out
        simp [results, Tryz.f9, go_sem]
    · have hji : (0 : Int) < (j : Int) := by omega
      have hpl2 : pr.len ≤ 1048576 := by omega
      have HPL := Lib.hid hpl
      have HO2 := HO3.out.trans (hon.mono HO3.out.size)
      have HC := Lib.hid (l2Some_any 2 (by decide) w.heap.size w.heap.size A bc bs2 Q q (0 + 1 + 1 + pr.len * costD 2) ds X3 c3 wr hrd (HK.out _ HO2).1 (Nat.le_refl _) hl2 hQ hq (by
        have h1 : pr.len * costD 2 ≤ 3 * costD 2 := Nat.mul_le_mul_right _ (by omega)
        have h2 : 3 * costD 2 ≤ 900 := by decide
        have h3 : costD 2 ≤ 300 := by decide
        omega) ((HL3.out.keep (Nat.le_refl _) hon.size fun p h1 h2 => hon.cell h2 (by omega)).mono_ (Nat.zero_le _) (Nat.le_refl _)) (by omega) HAR.out)
      have HT := Lib.hid ht
      have HON := Lib.hid hon
      have HPS := Lib.hid hps
      clear ht hon hrd hq hps hpl HO2
      go_wp2_with fail
      refine HC.out.mono ?_
      rintro e w5 ⟨o5, n5, k5, A5, c5, b5, p5, rfl, hi5, ht5, hs5, hrd5, hok5, hon5⟩
      have hwz : w3.heap.size ≤ wr.heap.size := HON.out.size
      have HT5 := Lib.hid (HT.out.keep fun z hz => hon5.block z (HT.out.lt z hz).2 (by have := (HT.out.lt z hz).1; omega))
      have HK5 := Lib.hid (ht5.lower (base' := w3.heap.size) hwz)
      have HD5 := Lib.hid (show ∀ z, z ∈ bl → z ∈ b5 → False from fun z h1 h2 => by
        have e1 := (HT.out.lt z h1).2
        have e2 := (ht5.lt z h2).1
        omega)
      have HI5 := Lib.hid hi5
      have HS5 := Lib.hid hs5
      have HZ5 := Lib.hid (Nat.le_trans hwz hon5.size)
      have HRD5 := Lib.hid (show Row w5 w.heap.size 55 #[.slice A bs2.length bc, .int .i64 (p5 : Int)] from hrd5)
      have HOK5 := Lib.hid hok5
      have HON5 := Lib.hid (HON.out.trans (hon5.mono HON.out.size))
      have HBOX := Lib.hid (show ∀ z, (Value.slice A1 pr.len c1').ownBlock = some z → w3.heap.size ≤ z from fun z hz => by
        obtain ⟨st, b1', k1', k2', _, _⟩ := HT.out
        exact (blk_lt k1' (by unfold blkV; rw [hz]; simp)).1)
      clear ht5 hon5 hi5 hs5 hrd5 hok5 HC HT HON
      go_wp2_with (at_builtin; refine wpList_push rfl _ _ rfl w3.heap.size (.slice A1 pr.len c1') pr bl b5 o5 n5 k5 A5 c5 rfl rfl HT5.out HK5.out HI5.out HD5.out hpl2 HZ5.out ?_; intro v6 w6 bs6 ht6 hg6 hin6; obtain ⟨A6, c6, rfl, hc61, hc62⟩ := ht6.slice; have HT6 := Lib.hid ht6; have HG6 := Lib.hid hg6; clear ht6 hg6 hin6 hc61 hc62)
      go_roundw
      case rel =>
        refine ⟨j - 1, pr.snoc o5 n5 k5, A6, c6, bs6, p5, by omega, ?_, rfl, ?_, HT6.out, ?_, row_grown HRD5.out HG6.out (fun e => by have := HBOX.out _ e.symm; omega), HOK5.out.mono ?_, HON5.out.grown HG6.out HBOX.out⟩
        · have : ((j - 1 : Nat) : Int) = (j : Int) - 1 := by omega
          rw [this]
        · rw [Fo.snoc_len]; have := HPL.out; omega
        · rw [snoc_size, Fo.snoc_len, Nat.succ_mul]
          have := HS5.out
          have := HPS.out
          omega
        · rw [Fo.snoc_len, Int.natCast_add, Int.add_mul]; omega
      case measure => simp [intOf]; omega

set_option maxHeartbeats 1000000 in
theorem drawUnused_any (A : Option Addr) (bc : Nat) (bs : List Nat) (w : World) (hB : LiesY w 0 w.heap.size A bs) (hl : bs.length ≤ bc) (hc : bc ≤ maxLen) :
    Calls Tryz.prog 4 #[.slice A bs.length bc] w (Case12Post w) := by
  have HC := Lib.hid (l12Case_any A bc bs w hB hl hc)
  clear hB
  go_enter Tryz.func4, Tryz.ntmps4
  go_wp2_with fail
  refine HC.out.mono ?_
  rintro e w2 ⟨ds, X, c, f, Y, cy, rfl, h⟩
  have HPOST := Lib.hid (show Case12Post w (.returned (.tuple #[.slice X ds.length c, .slice Y f.len cy])) w2 from ⟨ds, X, c, f, Y, cy, rfl, h⟩)
  clear h HC
  go_wp2_with fail
  refine bodyPost_ret (v := .tuple #[.slice X ds.length c, .slice Y f.len cy]) ?_ rfl HPOST.out
  simp [results, Tryz.f4, go_sem]
end Go.Proofs.YtpknegneogdmfaaGreat

namespace Go.Proofs.YtpknegneogdmfaaGreat
open Go.RowKit Go.Shelf
set_option maxRecDepth 100000

theorem lies_rest {w : World} {L B b o : Nat} : ∀ {f : Fo} {i : Nat}, Lies w L B (some ⟨b, o, none⟩) (i + 1) f → Lies w L B (some ⟨b, o + 3, none⟩) i f
  | .nil, _, _ => trivial
  | .cons _ _ _ _, i, ⟨⟨b', o', A', c', hA, h1, h2, h3, h4, h5, h6, h7, h8⟩, h⟩ => by
    injection hA with hA
    injection hA with hA1 hA2
    subst hA1 hA2
    have e : o + (i + 1) * 3 = o + 3 + i * 3 := by omega
    rw [e] at h5 h6 h7
    exact ⟨⟨b, o + 3, A', c', rfl, h1, h2, h3, h4, h5, h6, h7, h8⟩, lies_rest h⟩

theorem fo_nil0 : ∀ {r : Fo}, r.len = 0 → r = .nil
  | .nil, _ => rfl
  | .cons _ _ _ r, h => by
    have : r.len + 1 = 0 := h
    omega

theorem unused_less {ds : List De} {f : Fo} {o n : Int} {k r : Fo} (e : f = .cons o n k r) {x : Int} (h : x ∈ unusedL ds f) : x ∈ unusedL ds r := by
  cases hr : rightB ds f with
  | false => rw [unusedL_no hr] at h; cases h
  | true =>
    have hr2 : rightB ds r = true := by
      unfold rightB at hr ⊢
      rw [Bool.and_eq_true, Bool.and_eq_true] at hr ⊢
      obtain ⟨h1, h2, h3⟩ := hr
      rw [clientsOk_cons e, Bool.and_eq_true] at h3
      have h4 := of_decide_eq_true h2
      refine ⟨h1, decide_eq_true ?_, h3.2⟩
      subst e
      simp only [Fo.len] at h4
      omega
    rw [unusedL_yes hr, List.mem_filter] at h
    rw [unusedL_yes hr2, List.mem_filter]
    refine ⟨h.1, ?_⟩
    have h2 := h.2
    rw [usedF_cons e, Bool.not_or, Bool.and_eq_true] at h2
    exact h2.2

set_option maxHeartbeats 4000000 in
theorem law_NUnusedFuns (bs : List Nat) (A : Option Addr) (c : Nat) (w : World) (hl : LiesY w 0 w.heap.size A bs) (hlc : bs.length ≤ c) (hc : c ≤ maxLen) :
    Calls Tryz.prog 3 #[.slice A bs.length c] w (Gives (.bool true) w) := by
  have HC := Lib.hid (drawUnused_any A c bs w hl hlc hc)
  unfold maxLen at hc
  by_cases hsz : bs.length ≤ 1048576
  rotate_left
  · have hgt : 1048576 < bs.length := by omega
    go_enter Tryz.func3, Tryz.ntmps3
    go_wp2_with fail
    go_ret
    exact ⟨rfl, Below.refl _ _⟩
  clear hl
  go_enter Tryz.func3, Tryz.ntmps3
  go_wp2_with fail
  refine HC.out.mono ?_
  rintro e w1 ⟨ds, X, cx, f, Y, cy, rfl, ⟨hL, hn, hs⟩, hY, hy1, hy2, hfs, hb1⟩
  have HK := Lib.hid (show ∀ V, Below w1.heap.size w1 V → LiesD V 0 w1.heap.size X ds ∧ Lies V 0 w1.heap.size Y 0 f ∧ w1.heap.size ≤ V.heap.size ∧ Below w.heap.size w V from fun V hV =>
    ⟨(hL.below hV).mono_ (Nat.zero_le _) (Nat.le_refl _), (hY.below hV).mono_ (Nat.zero_le _) (Nat.le_refl _), hV.size, hb1.trans (hV.mono hb1.size)⟩)
  have hfs2 : f.size ≤ 1048576 := by omega
  unfold maxLen at hy2
  clear hL hY hb1 HC
  obtain ⟨zs, hzs⟩ : ∃ z, z = unusedL ds f := ⟨_, rfl⟩
  have hzi : ∀ x ∈ zs, I64 x := by rw [hzs]; exact fun x hx => unusedL_small x hx
  have hzl : zs.length ≤ 8 := by rw [hzs]; exact unusedL_len8 ds f
  have HZS := Lib.hid hzs
  have HZI := Lib.hid hzi
  clear hzs hzi
  obtain ⟨h1, h2, h3, h4⟩ := HK.out w1 (Below.refl _ _)
  have HI1 := Lib.hid (implUnused_r ds X cx f Y cy 0 w1.heap.size 0 w1.heap.size w1 h1 h3 h2 h3 hs hfs2)
  clear h1 h2 h3 h4
  go_wp2_with fail
  refine HI1.out.mono ?_
  rintro e w2 ⟨vo, rfl, ho2, hb2⟩
  rw [← HZS.out] at ho2
  obtain ⟨A2, c2, rfl, hI2⟩ := own_ints ho2 HZI.out
  have HB2 := Lib.hid hb2
  have HI := Lib.hid (show ∀ V, Below w2.heap.size w2 V → LiesI V 0 V.heap.size A2 zs from fun V hV => (hI2.mono_ (Nat.zero_le _) (Nat.le_refl _)).up hV)
  obtain ⟨h1, h2, h3, h4⟩ := HK.out w2 HB2.out
  have HS2 := Lib.hid (specUnused_any ds X cx f Y cy w2 (h1.mono_ (Nat.le_refl _) h3) (h2.mono_ (Nat.le_refl _) h3) hs hfs2)
  clear hb2 ho2 hI2 HI1 h1 h2 h3 h4
  go_wp2_with fail
  refine HS2.out.mono ?_
  rintro e w3 ⟨vo, rfl, ho3, hb3⟩
  rw [← HZS.out] at ho3
  obtain ⟨A3, c3, rfl, hI3⟩ := own_ints ho3 HZI.out
  have HJ3 := Lib.hid (show LiesI w3 0 w3.heap.size A3 zs from hI3.mono_ (Nat.zero_le _) (Nat.le_refl _))
  have HB3 := Lib.hid (HB2.out.trans (hb3.mono HB2.out.size))
  have HD3 := Lib.hid (hb3)
  clear hb3 ho3 hI3 HS2
  by_cases hf0 : f.len = 0
  · have hfi : ((f.len : Int) == 0) = true := by simp; omega
    clear hf0
    go_wp2_with fail
    refine (amInts_any zs zs A2 A3 c2 c3 w3 (HI.out w3 HD3.out) HJ3.out (by omega) (by omega)).mono ?_
    rintro e w4 ⟨rfl, hb4⟩
    rw [show decide (zs = zs) = true by simp]
    have HB4 := Lib.hid (HB3.out.trans (hb4.mono HB3.out.size))
    have HD4 := Lib.hid (HD3.out.trans (hb4.mono HD3.out.size))
    obtain ⟨h1, h2, h3, h4⟩ := HK.out w4 HB4.out
    have HS4 := Lib.hid (specUnused_any ds X cx f Y cy w4 (h1.mono_ (Nat.le_refl _) h3) (h2.mono_ (Nat.le_refl _) h3) hs hfs2)
    clear hb4 HJ3 HB3 HD3 h1 h2 h3 h4
    go_wp2_with fail
    refine HS4.out.mono ?_
    rintro e w5 ⟨vo, rfl, ho5, hb5⟩
    rw [← HZS.out] at ho5
    obtain ⟨A5, c5, rfl, hI5⟩ := own_ints ho5 HZI.out
    have HJ5 := Lib.hid (show LiesI w5 0 w5.heap.size A5 zs from hI5.mono_ (Nat.zero_le _) (Nat.le_refl _))
    have HB5 := Lib.hid (HB4.out.trans (hb5.mono HB4.out.size))
    have HD5 := Lib.hid (HD4.out.trans (hb5.mono HD4.out.size))
    clear hb5 ho5 hI5 HS4 HB4 HD4
    go_wp2_with fail
    refine (amInts_any zs zs A2 A5 c2 c5 w5 (HI.out w5 HD5.out) HJ5.out (by omega) (by omega)).mono ?_
    rintro e w6 ⟨rfl, hb6⟩
    rw [show decide (zs = zs) = true by simp]
    have HR := Lib.hid (HK.out w6 (HB5.out.trans (hb6.mono HB5.out.size))).2.2.2
    clear hb6
    go_wp2_with fail
    go_ret
    exact ⟨rfl, HR.out⟩
  · have hfi : ((f.len : Int) == 0) = false := by simp; omega
    obtain ⟨o, n, k, e1, s1, _⟩ := Fo.drop_of_lt f 0 (by omega)
    rw [Fo.drop_zero] at e1
    obtain ⟨r, hr⟩ : ∃ r, r = f.drop (0 + 1) := ⟨_, rfl⟩
    rw [← hr] at e1
    clear hr
    obtain ⟨b, p, hYA⟩ : ∃ b p, Y = some ⟨b, p, none⟩ := by
      have h2 := (HK.out w1 (Below.refl _ _)).2.1
      rw [e1] at h2
      obtain ⟨⟨b, o, _, _, hA, _⟩, _⟩ := h2
      exact ⟨b, o, hA⟩
    subst hYA
    have HK2 := Lib.hid (show ∀ V, Below w1.heap.size w1 V → Lies V 0 w1.heap.size (some ⟨b, p + 3, none⟩) 0 r from fun V hV => by
      have h2 := (HK.out V hV).2.1
      rw [e1] at h2
      exact lies_rest h2.2)
    have hfl : f.len = r.len + 1 := by rw [e1]; rfl
    have hrs : r.size ≤ 1048576 := by
      have : f.size = k.size + r.size + 1 ∨ r.size ≤ f.size := by rw [e1]; simp only [Fo.size]; omega
      omega
    have HFL := Lib.hid hfl
    obtain ⟨ys, hys⟩ : ∃ z, z = unusedL ds r := ⟨_, rfl⟩
    have hyi : ∀ x ∈ ys, I64 x := by rw [hys]; exact fun x hx => unusedL_small x hx
    have hyl : ys.length ≤ 8 := by rw [hys]; exact unusedL_len8 ds r
    have HSUB := Lib.hid (show ∀ x ∈ zs, x ∈ ys by rw [HZS.out, hys]; exact fun x hx => unused_less e1 hx)
    have HYS := Lib.hid hys
    have HYI := Lib.hid hyi
    have hpos : (1 : Int) ≤ (f.len : Int) := by omega
    have hcy : (f.len : Int) ≤ (cy : Int) := by omega
    clear e1 s1 hfl hys hyi hf0
    go_wp2_with fail
    refine (amInts_any zs zs A2 A3 c2 c3 w3 (HI.out w3 HD3.out) HJ3.out (by omega) (by omega)).mono ?_
    rintro e w4 ⟨rfl, hb4⟩
    rw [show decide (zs = zs) = true by simp]
    have HB4 := Lib.hid (HB3.out.trans (hb4.mono HB3.out.size))
    have HD4 := Lib.hid (HD3.out.trans (hb4.mono HD3.out.size))
    obtain ⟨h1, _, h3, h4⟩ := HK.out w4 HB4.out
    have HI4 := Lib.hid (show ∀ a cc, Lies w4 0 w1.heap.size a 0 r → Calls Tryz.prog 5 #[.slice X ds.length cx, .slice a (f.len - 1) cc] w4 (ListPost (unusedL ds r) w4) from fun a cc hr => by
      rw [show f.len - 1 = r.len by have := HFL.out; omega]
      exact implUnused_r ds X cx r a cc 0 w1.heap.size 0 w1.heap.size w4 h1 h3 hr h3 hs hrs)
    have HRL := Lib.hid (HK2.out w4 HB4.out)
    clear hb4 HJ3 HB3 HD3 h1 h3 h4
    go_wp2_with fail
    · refine (HI4.out (some ⟨b, p, none⟩) 0 (by
        have h0 : r = .nil := fo_nil0 (by have := HFL.out; omega)
        rw [h0]
        trivial)).mono ?_
      rintro e w5 ⟨vo, rfl, ho5, hb5⟩
      rw [← HYS.out] at ho5
      obtain ⟨A5, c5, rfl, hI5⟩ := own_ints ho5 HYI.out
      have HB5 := Lib.hid (HB4.out.trans (hb5.mono HB4.out.size))
      have HD5 := Lib.hid (HD4.out.trans (hb5.mono HD4.out.size))
      have HJ := Lib.hid (show ∀ V, Below w5.heap.size w5 V → LiesI V 0 V.heap.size A5 ys from fun V hV => (hI5.mono_ (Nat.zero_le _) (Nat.le_refl _)).up hV)
      clear hb5 ho5 hI5 HI4 HB4 HD4 HYS HYI HZS HZI
      go_wp2_with fail
      go_loopw [7] (fun i wr => ∃ (j : Nat), j ≤ zs.length ∧ i = .int .i64 (j : Int) ∧ Below w5.heap.size w5 wr)
        (fun i _ => zs.length - (intOf i).toNat)
      case atStart => exact ⟨0, by omega, rfl, Below.refl _ _⟩
      case round =>
        obtain ⟨j, hj, rfl, hbr⟩ := hrel
        by_cases hlt : j < zs.length
        · obtain ⟨x, hx⟩ : ∃ x, zs[j]? = some x := ⟨_, List.getElem?_eq_getElem hlt⟩
          have HIN := Lib.hid (HSUB.out x (List.mem_of_getElem? hx))
          obtain ⟨b2, o2, hA2, _, hbb2, hxi, g2⟩ := (HI.out wr (HD5.out.trans (hbr.mono HD5.out.size))) j x hx
          have hji : (j : Int) < (zs.length : Int) := by omega
          have HM := Lib.hid (amIn_any ys A5 c5 x wr (HJ.out wr hbr) (by omega))
          rw [show decide (x ∈ ys) = true by simpa using HIN.out] at HM
          have HBR := Lib.hid hbr
          subst hA2
          clear hx hbr
          go_wp2_with fail
          refine HM.out.mono ?_
          rintro e w6 ⟨rfl, hb6⟩
          have HB6 := Lib.hid (HBR.out.trans (hb6.mono HBR.out.size))
          clear hb6 g2 HM
          go_wp2_with fail
          go_roundw
          case rel => exact ⟨j + 1, by omega, by go_num, HB6.out⟩
          case measure => simp [intOf]; omega
        · have hji : ¬ (j : Int) < (zs.length : Int) := by omega
          have HR := Lib.hid (HK.out wr (HB5.out.trans (hbr.mono HB5.out.size))).2.2.2
          clear hbr
          go_wp2_with fail
          go_ret
          exact ⟨rfl, HR.out⟩
    · refine (HI4.out (some ⟨b, p + 3, none⟩) (cy - 1) HRL.out).mono ?_
      rintro e w5 ⟨vo, rfl, ho5, hb5⟩
      rw [← HYS.out] at ho5
      obtain ⟨A5, c5, rfl, hI5⟩ := own_ints ho5 HYI.out
      have HB5 := Lib.hid (HB4.out.trans (hb5.mono HB4.out.size))
      have HD5 := Lib.hid (HD4.out.trans (hb5.mono HD4.out.size))
      have HJ := Lib.hid (show ∀ V, Below w5.heap.size w5 V → LiesI V 0 V.heap.size A5 ys from fun V hV => (hI5.mono_ (Nat.zero_le _) (Nat.le_refl _)).up hV)
      clear hb5 ho5 hI5 HI4 HB4 HD4 HYS HYI HZS HZI
      go_wp2_with fail
      go_loopw [7] (fun i wr => ∃ (j : Nat), j ≤ zs.length ∧ i = .int .i64 (j : Int) ∧ Below w5.heap.size w5 wr)
        (fun i _ => zs.length - (intOf i).toNat)
      case atStart => exact ⟨0, by omega, rfl, Below.refl _ _⟩
      case round =>
        obtain ⟨j, hj, rfl, hbr⟩ := hrel
        by_cases hlt : j < zs.length
        · obtain ⟨x, hx⟩ : ∃ x, zs[j]? = some x := ⟨_, List.getElem?_eq_getElem hlt⟩
          have HIN := Lib.hid (HSUB.out x (List.mem_of_getElem? hx))
          obtain ⟨b2, o2, hA2, _, hbb2, hxi, g2⟩ := (HI.out wr (HD5.out.trans (hbr.mono HD5.out.size))) j x hx
          have hji : (j : Int) < (zs.length : Int) := by omega
          have HM := Lib.hid (amIn_any ys A5 c5 x wr (HJ.out wr hbr) (by omega))
          rw [show decide (x ∈ ys) = true by simpa using HIN.out] at HM
          have HBR := Lib.hid hbr
          subst hA2
          clear hx hbr
          go_wp2_with fail
          refine HM.out.mono ?_
          rintro e w6 ⟨rfl, hb6⟩
          have HB6 := Lib.hid (HBR.out.trans (hb6.mono HBR.out.size))
          clear hb6 g2 HM
          go_wp2_with fail
          go_roundw
          case rel => exact ⟨j + 1, by omega, by go_num, HB6.out⟩
          case measure => simp [intOf]; omega
        · have hji : ¬ (j : Int) < (zs.length : Int) := by omega
          have HR := Lib.hid (HK.out wr (HB5.out.trans (hbr.mono HB5.out.size))).2.2.2
          clear hbr
          go_wp2_with fail
          go_ret
          exact ⟨rfl, HR.out⟩
end Go.Proofs.YtpknegneogdmfaaGreat
