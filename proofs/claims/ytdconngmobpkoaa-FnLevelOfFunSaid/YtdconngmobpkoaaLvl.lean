/-
  spec.l12Level, spec.LevelOfFun.
-/
import Derived.Test.YtdconngmobpkoaaGraD
import Derived.Test.YtdconngmobpkoaaLibVS
import Derived.Test.YtdconngmobpkoaaCallsM
import Derived.Test.YtdconngmobpkoaaEffS
import Derived.Deep.RegionHeld3
namespace Go.Proofs.Ytdconngmobpkoaa
open Go.RowKit Go.Shelf
set_option maxRecDepth 100000

theorem place_at {x : Int} {ds : List De} {d : De} (h : fnd x ds = some d) : ∃ p : Nat, plcI x ds = (p : Int) ∧ ds[p]? = some d ∧ p < ds.length := by
  have h2 := plc_fnd x ds
  by_cases hp : plc x ds < ds.length
  · obtain ⟨d', e1, e2⟩ := h2.1 hp
    rw [h] at e2
    cases e2
    exact ⟨plc x ds, by unfold plcI; rw [if_pos hp], e1, hp⟩
  · rw [h2.2 hp] at h
    cases h
theorem maxOver_take {g : Nat → Nat} {zs : List Int} {j : Nat} {x : Int} (h : zs[j]? = some x) (n : Nat) : maxOver g (zs.take (j + 1)) n = max (maxOver g (zs.take j) n) (g x.toNat + 1) := by
  rw [List.take_add_one, h]
  exact maxOver_snoc g (zs.take j) x n
theorem outE_at {ds : List De} (hok : libOk ds = true) {d : De} (hd : d ∈ ds) : outE ds d.nm.toNat = numsUpto (callB ⟨d.op, d.n, d.k⟩) 8 := by
  unfold outE
  rw [show edge ds d.nm.toNat = callD d from funext fun g => edge_mem hok hd g]
  rfl
theorem lvl_le8 {ds : List De} (hok : libOk ds = true) {d : De} (hd : d ∈ ds) (he : Ends ds d.nm.toNat) : lvl ds d.nm.toNat < 8 := Nat.lt_of_lt_of_le (lvl_lt hok hd he) (libOk_len hok)
theorem maxOver_le8 {ds : List De} (hok : libOk ds = true) {f : Nat} (he : Ends ds f) : ∀ {zs : List Int}, (∀ x ∈ zs, x ∈ outE ds f) → maxOver (lvl ds) zs 0 ≤ 8 := by
  intro zs hz
  refine maxOver_le (Nat.zero_le _) fun x hx => ?_
  obtain ⟨v, _, rfl, hv⟩ := (nums_iff _ 8 x).1 (hz x hx)
  obtain ⟨e, hfe⟩ := edge_there hok hv
  obtain ⟨hem, hex⟩ := there_mem hok hfe
  have h1 := lvl_le8 hok hem (by rw [hex]; exact he.call hv)
  rw [hex] at h1
  show lvl ds v + 1 ≤ 8
  omega

set_option maxHeartbeats 2000000 in
theorem l12Level_any (ds : List De) (DA : Option Addr) (DC : Nat) (hdz : sizeD ds ≤ 1048576) (hok : libOk ds = true) (m : Nat) : ∀ (d : De) (w : World), d ∈ ds → behind ds d.nm.toNat = m → Ends ds d.nm.toNat → LiesD w 0 w.heap.size DA ds →
    Calls Try.prog 44 #[.slice DA ds.length DC, .int .i64 d.nm] w (Gives (.int .i64 (lvl ds d.nm.toNat : Int)) w) := by
  have hds := Nat.le_trans (sizeD_len ds) hdz
  induction m using Nat.strongRecOn with
  | _ m ih =>
    intro d w hdm hm he hd
    obtain ⟨hin, hfn⟩ := libOk_named hok d hdm
    obtain ⟨p, hp1, hp2, hp3⟩ := place_at hfn
    have hsd := sizeD_at hp2
    have HPL := Lib.hid (place_any ds DA DC w d.nm hd hds)
    rw [hp1] at HPL
    have HD := Lib.hid hd
    have HE := Lib.hid he
    have HIH := Lib.hid (show ∀ (x : Int), x ∈ outE ds d.nm.toNat → ∀ V, Below w.heap.size w V → Calls Try.prog 44 #[.slice DA ds.length DC, .int .i64 x] V (Gives (.int .i64 (lvl ds x.toNat : Int)) V) ∧ lvl ds x.toNat < 8 from fun x hx V hV => by
      obtain ⟨v, _, rfl, hv⟩ := (nums_iff _ 8 x).1 hx
      obtain ⟨e, hfe⟩ := edge_there hok hv
      obtain ⟨hem, hex⟩ := there_mem hok hfe
      have hlt := behind_lt hok he hv
      have hen := (fnd_mem hfe).2
      have h1 := ih (behind ds v) (by omega) e V hem (by rw [hex]) (by rw [hex]; exact he.call hv) (hd.up hV)
      have h2 := lvl_le8 hok hem (by rw [hex]; exact he.call hv)
      rw [hen] at h1 h2
      exact ⟨h1, h2⟩)
    have HLV := Lib.hid (show lvl ds d.nm.toNat = maxOver (lvl ds) (outE ds d.nm.toNat) 0 from lvl_is hok he)
    have HOE := Lib.hid (outE_at hok hdm)
    have HM8 := Lib.hid (show ∀ j, maxOver (lvl ds) ((outE ds d.nm.toNat).take j) 0 ≤ 8 from fun j => maxOver_le8 hok he fun x hx => List.mem_of_mem_take hx)
    have hpi : (p : Int) < (ds.length : Int) := by omega
    have HP2 := Lib.hid hp2
    clear ih hd he hin hfn hp1 hp2 hp3 hm
    rw [HLV.out]
    generalize outE ds d.nm.toNat = zs at HIH HOE HM8 ⊢
    have hzl : zs.length ≤ 8 := by rw [HOE.out]; exact numsUpto_len _ 8
    have HZI := Lib.hid (show ∀ x ∈ zs, I64 x from fun x hx => numsUpto_small _ 8 x (Nat.le_refl _) (HOE.out ▸ hx))
    go_enter Try.func44, Try.ntmps44
    go_wp2_with fail
    refine HPL.out.mono ?_
    rintro e w1 ⟨rfl, hb1⟩
    have HB1 := Lib.hid hb1
    obtain ⟨b, o, A', c', hA, _, hbb, hf', g1, g2, g3, g4, g5, g6, h7, h8, h9⟩ := HD.out.below hb1 p d HP2.out
    subst hA
    have HCA := Lib.hid (specCalls_any d.op d.n d.k A' c' w1 (h9.mono_ (Nat.le_refl _) hb1.size) (by omega))
    rw [← HOE.out] at HCA
    clear hb1 HPL hf' h7 h8 h9
    go_wp2_with fail
    refine HCA.out.mono ?_
    rintro e w2 ⟨v2, rfl, ho2, hb2⟩
    obtain ⟨A2, c2, rfl, hI2⟩ := own_ints ho2 HZI.out
    have HI2 := Lib.hid (show LiesI w2 0 w2.heap.size A2 zs from hI2.mono_ (Nat.zero_le _) (Nat.le_refl _))
    have HB2 := Lib.hid (HB1.out.trans (hb2.mono HB1.out.size))
    clear ho2 hI2 hb2 HCA HB1 g1 g2 g3 g4 g5 g6
    go_wp2_with fail
    go_loopw [5, 7] (fun v i wr => ∃ (j : Nat), j ≤ zs.length ∧ i = .int .i64 (j : Int) ∧ v = .int .i64 (maxOver (lvl ds) (zs.take j) 0 : Int) ∧ Below w2.heap.size w2 wr)
      (fun _ i _ => zs.length - (intOf i).toNat)
    case atStart => exact ⟨0, Nat.zero_le _, rfl, rfl, Below.refl _ _⟩
    case round =>
      obtain ⟨j, hj, rfl, rfl, hbr⟩ := hrel
      have HBR := Lib.hid hbr
      clear hbr
      by_cases hlt : j < zs.length
      · have hji : (j : Int) < (zs.length : Int) := by omega
        have e1 := List.getElem?_eq_getElem hlt
        have hxm := List.getElem_mem hlt
        generalize zs[j] = x at e1 hxm
        obtain ⟨b2, o2, hA2, _, hbb2, hx2, g7⟩ := (HI2.out.below HBR.out) j x e1
        subst hA2
        have HST := Lib.hid (maxOver_take (g := lvl ds) e1 0)
        obtain ⟨hc1, hc2⟩ := HIH.out x hxm wr (HB2.out.trans (HBR.out.mono HB2.out.size))
        have HC := Lib.hid hc1
        have hm8 := HM8.out j
        generalize maxOver (lvl ds) (zs.take j) 0 = n at HST hm8 ⊢
        generalize lvl ds x.toNat = k at HC HST hc2
        clear hc1 e1 hxm
        go_wp2_with fail
        refine HC.out.mono ?_
        rintro e w3 ⟨rfl, hb3⟩
        have HB3 := Lib.hid (HBR.out.trans (hb3.mono HBR.out.size))
        clear hb3 HC g7
        by_cases hgt : n < k + 1
        · have hgti : (n : Int) < (k : Int) + 1 := by omega
          have HE := Lib.hid (show max n (k + 1) = k + 1 by omega)
          go_wp2_with fail
          go_roundw
          case rel => exact ⟨j + 1, hlt, by go_num, by rw [HST.out, HE.out]; first | rfl | simp, HB3.out⟩
          case measure => simp [intOf]; omega
        · have hgti : ¬ (n : Int) < (k : Int) + 1 := by omega
          have HE := Lib.hid (show max n (k + 1) = n by omega)
          go_wp2_with fail
          go_roundw
          case rel => exact ⟨j + 1, hlt, by go_num, by rw [HST.out, HE.out], HB3.out⟩
          case measure => simp [intOf]; omega
      · have hji : ¬ (j : Int) < (zs.length : Int) := by omega
        have hje : zs.take j = zs := List.take_of_length_le (by omega)
        rw [hje]
        have HBW := Lib.hid (HB2.out.trans (HBR.out.mono HB2.out.size))
        clear hje
        go_wp2_with fail
        go_ret
        exact ⟨rfl, HBW.out⟩

theorem lvlB_no {ds : List De} {x : Int} (h : lvlB ds x = false) : lvlV ds x = 0 := by unfold lvlV; rw [h]; rfl
theorem lvlB_yes {ds : List De} {x : Int} (h : lvlB ds x = true) : lvlV ds x = lvl ds x.toNat := by unfold lvlV; rw [h]; rfl
/-- A number and a Boolean. -/
def LvlPost (n : Nat) (b : Bool) (w : World) (e : Ending) (w' : World) : Prop := e = .returned (.tuple #[.int .i64 (n : Int), .bool b]) ∧ Below w.heap.size w w'

set_option maxHeartbeats 2000000 in
theorem specLevel_any (ds : List De) (DA : Option Addr) (DC : Nat) (x : Int) (w : World) (hd : LiesD w 0 w.heap.size DA ds) (hdz : sizeD ds ≤ 1048576) :
    Calls Try.prog 20 #[.slice DA ds.length DC, .int .i64 x] w (LvlPost (lvlV ds x) (lvlB ds x) w) := by
  have hds := Nat.le_trans (sizeD_len ds) hdz
  have HV := Lib.hid (specLibValid_any ds DA DC w hd hdz)
  have HD := Lib.hid hd
  clear hd
  cases hok : libOk ds with
  | false =>
    have hb0 : lvlB ds x = false := by unfold lvlB; rw [hok]; rfl
    rw [hb0, lvlB_no hb0]
    rw [hok] at HV
    clear hok hb0
    go_enter Try.func20, Try.ntmps20
    go_wp2_with fail
    refine HV.out.mono ?_
    rintro e w2 ⟨rfl, hb2⟩
    have HB2 := Lib.hid hb2
    clear hb2 HV
    go_wp2_with fail
    refine bodyPost_ret (v := .tuple #[.int .i64 0, .bool false]) ?_ rfl ⟨rfl, HB2.out⟩
    simp [results, Try.f20, go_sem]
  | true =>
    rw [hok] at HV
    have HOK := Lib.hid hok
    have HPL := Lib.hid (fun V (hV : Below w.heap.size w V) => place_any ds DA DC V x (HD.out.up hV) hds)
    cases hf : fnd x ds with
    | none =>
      have hb0 : lvlB ds x = false := by unfold lvlB; rw [hok, hf]; rfl
      have hpl : plcI x ds = -1 := by
        unfold plcI
        by_cases hp : plc x ds < ds.length
        · obtain ⟨d, _, h2⟩ := (plc_fnd x ds).1 hp
          rw [hf] at h2; cases h2
        · rw [if_neg hp]
      rw [hb0, lvlB_no hb0]
      rw [hpl] at HPL
      clear hok hb0 hf hpl
      go_enter Try.func20, Try.ntmps20
      go_wp2_with fail
      refine HV.out.mono ?_
      rintro e w2 ⟨rfl, hb2⟩
      have HB2 := Lib.hid hb2
      clear hb2 HV
      go_wp2_with fail
      refine (HPL.out w2 HB2.out).mono ?_
      rintro e w3 ⟨rfl, hb3⟩
      have HB3 := Lib.hid (HB2.out.trans (hb3.mono HB2.out.size))
      clear hb3 HB2 HPL
      go_wp2_with fail
      refine bodyPost_ret (v := .tuple #[.int .i64 0, .bool false]) ?_ rfl ⟨rfl, HB3.out⟩
      simp [results, Try.f20, go_sem]
    | some d =>
      obtain ⟨p, hp1, hp2, hp3⟩ := place_at hf
      rw [hp1] at HPL
      obtain ⟨hdm, hdx⟩ := fnd_mem hf
      have HEN := Lib.hid (fun V (hV : Below w.heap.size w V) => l5Ending_any ds DA DC x V (HD.out.up hV) hdz (fun d hd => (libOk_named hok d hd).1))
      have hpn : ¬ (p : Int) < 0 := by omega
      cases he : endingS ds x with
      | false =>
        have hb0 : lvlB ds x = false := by unfold lvlB; rw [hok, hf, he]; rfl
        rw [hb0, lvlB_no hb0]
        rw [he] at HEN
        clear hok hb0 hf he hp1 hp2 hp3
        go_enter Try.func20, Try.ntmps20
        go_wp2_with fail
        refine HV.out.mono ?_
        rintro e w2 ⟨rfl, hb2⟩
        have HB2 := Lib.hid hb2
        clear hb2 HV
        go_wp2_with fail
        refine (HPL.out w2 HB2.out).mono ?_
        rintro e w3 ⟨rfl, hb3⟩
        have HB3 := Lib.hid (HB2.out.trans (hb3.mono HB2.out.size))
        clear hb3 HB2 HPL
        go_wp2_with fail
        refine (HEN.out w3 HB3.out).mono ?_
        rintro e w4 ⟨rfl, hb4⟩
        have HB4 := Lib.hid (HB3.out.trans (hb4.mono HB3.out.size))
        clear hb4 HB3 HEN
        go_wp2_with fail
        refine bodyPost_ret (v := .tuple #[.int .i64 0, .bool false]) ?_ rfl ⟨rfl, HB4.out⟩
        simp [results, Try.f20, go_sem]
      | true =>
        have hb1 : lvlB ds x = true := by unfold lvlB; rw [hok, hf, he]; rfl
        rw [hb1, lvlB_yes hb1]
        have hEn : Ends ds d.nm.toNat := (ending_iff hok hdm).1 (by rw [hdx]; exact he)
        have HLV := Lib.hid (fun V (hV : Below w.heap.size w V) => show Calls Try.prog 44 #[.slice DA ds.length DC, .int .i64 x] V (Gives (.int .i64 (lvl ds x.toNat : Int)) V) by
          have h := l12Level_any ds DA DC hdz hok _ d V hdm rfl hEn (HD.out.up hV)
          rw [hdx] at h
          exact h)
        rw [he] at HEN
        generalize lvl ds x.toNat = n at HLV ⊢
        clear hok hb1 hf he hp1 hp2 hp3 hEn
        go_enter Try.func20, Try.ntmps20
        go_wp2_with fail
        refine HV.out.mono ?_
        rintro e w2 ⟨rfl, hb2⟩
        have HB2 := Lib.hid hb2
        clear hb2 HV
        go_wp2_with fail
        refine (HPL.out w2 HB2.out).mono ?_
        rintro e w3 ⟨rfl, hb3⟩
        have HB3 := Lib.hid (HB2.out.trans (hb3.mono HB2.out.size))
        clear hb3 HB2 HPL
        go_wp2_with fail
        refine (HEN.out w3 HB3.out).mono ?_
        rintro e w4 ⟨rfl, hb4⟩
        have HB4 := Lib.hid (HB3.out.trans (hb4.mono HB3.out.size))
        clear hb4 HB3 HEN
        go_wp2_with fail
        refine (HLV.out w4 HB4.out).mono ?_
        rintro e w5 ⟨rfl, hb5⟩
        have HB5 := Lib.hid (HB4.out.trans (hb5.mono HB4.out.size))
        clear hb5 HB4 HLV
        go_wp2_with fail
        refine bodyPost_ret (v := .tuple #[.int .i64 (n : Int), .bool true]) ?_ rfl ⟨rfl, HB5.out⟩
        simp [results, Try.f20, go_sem]
end Go.Proofs.Ytdconngmobpkoaa
