/-
  The walk of the law FnLevelOfFun: true at every input.
-/
import Derived.Test.YtdconngmobpkoaaMutLib
import Derived.Test.YtdconngmobpkoaaLvlI
import Derived.Test.YtdconngmobpkoaaQuietI
import Derived.Test.YtdconngmobpkoaaFind
import Derived.Test.YtdconngmobpkoaaAm
namespace Go.Proofs.Ytdconngmobpkoaa
open Go.RowKit Go.Shelf
set_option maxRecDepth 100000

set_option maxHeartbeats 1000000 in
theorem drawLevel_any (A : Option Addr) (bc : Nat) (bs : List Nat) (w : World) (hB : LiesY w 0 w.heap.size A bs) (hl : bs.length ≤ bc) (hc : bc ≤ maxLen) :
    Calls Try.prog 29 #[.slice A bs.length bc] w (FindDPost w) := by
  have HC := Lib.hid (drawFind_any A bc bs w hB hl hc)
  clear hB
  go_enter Try.func29, Try.ntmps29
  go_wp2_with fail
  refine HC.out.mono ?_
  rintro e w1 ⟨ds, X, c, y, rfl, hd, hyi, hb1⟩
  have HPOST := Lib.hid (show FindDPost w (.returned (.tuple #[.slice X ds.length c, .int .i64 y])) w1 from ⟨ds, X, c, y, rfl, hd, hyi, hb1⟩)
  clear hd hyi hb1 HC
  go_wp2_with fail
  refine bodyPost_ret (v := .tuple #[.slice X ds.length c, .int .i64 y]) ?_ rfl HPOST.out
  simp [results, Try.f29, go_sem]

/-- What the law says of a function that has a level. -/
theorem lvl_law {ds : List De} {x : Int} (h : lvlB ds x = true) : ∃ (p : Nat) (d : De), plc x ds = p ∧ p < ds.length ∧ ds[p]? = some d ∧ smallOk d.k 14 80 = true ∧
    (∀ y, y ∈ numsUpto (callB ⟨d.op, d.n, d.k⟩) 8 → lvlB ds y = true ∧ lvlV ds y < lvlV ds x) ∧ lvlV ds x < ds.length ∧ decide (x ∈ funsP (endingS ds) ds) = true ∧
    (decide (lvlV ds x = 0) = decide ((numsUpto (callB ⟨d.op, d.n, d.k⟩) 8).length = 0)) := by
  unfold lvlB at h
  obtain ⟨hok, h2⟩ := Bool.and_eq_true_iff.1 h
  obtain ⟨h3, he⟩ := Bool.and_eq_true_iff.1 h2
  obtain ⟨d, hf⟩ := Option.isSome_iff_exists.1 h3
  obtain ⟨hm, hx⟩ := fnd_mem hf
  have hp : plc x ds < ds.length := Nat.lt_of_not_le fun hn => by rw [(plc_fnd x ds).2 (by omega)] at hf; cases hf
  obtain ⟨d9, h9, hd9⟩ := (plc_fnd x ds).1 hp
  rw [hf] at hd9
  cases hd9
  have hE : Ends ds d.nm.toNat := (ending_iff hok hm).1 (by rw [hx]; exact he)
  have hV : lvlV ds x = lvl ds d.nm.toNat := by rw [hx]; exact lvlB_yes h
  refine ⟨_, d, rfl, hp, h9, libOk_small hok d hm, fun y hy => ?_, ?_, ?_, ?_⟩
  · rw [← outE_at hok hm] at hy
    obtain ⟨v, _, rfl, hv⟩ := (nums_iff _ 8 y).1 hy
    obtain ⟨e, hfe⟩ := edge_there hok hv
    obtain ⟨hem, hex⟩ := there_mem hok hfe
    have hen := (fnd_mem hfe).2
    have h4 : endingS ds (v : Int) = true := by
      have := (ending_iff hok hem).2 (by rw [hex]; exact hE.call hv)
      rw [hen] at this
      exact this
    have hB : lvlB ds (v : Int) = true := by unfold lvlB; rw [hok, hfe, h4]; rfl
    exact ⟨hB, by rw [lvlB_yes hB, hV]; exact lvl_call hok hE hv⟩
  · rw [hV]; exact lvl_lt hok hm hE
  · refine decide_eq_true ?_
    rw [funsP_yes hok, List.mem_filter]
    exact ⟨List.mem_map.2 ⟨d, hm, hx⟩, he⟩
  · rw [hV, ← outE_at hok hm]
    refine decide_eq_decide.2 ((lvl_zero hok hE).trans ?_)
    exact List.length_eq_zero_iff.symm

set_option maxHeartbeats 4000000 in
theorem law_NLevelOfFun (bs : List Nat) (A : Option Addr) (c : Nat) (w : World) (hl : LiesY w 0 w.heap.size A bs) (hlc : bs.length ≤ c) (hc : c ≤ maxLen) :
    Calls Try.prog 8 #[.slice A bs.length c] w (Gives (.bool true) w) := by
  have HC := Lib.hid (drawLevel_any A c bs w hl hlc hc)
  unfold maxLen at hc
  by_cases hsz : bs.length ≤ 1048576
  rotate_left
  · have hgt : 1048576 < bs.length := by omega
    clear hl
    go_enter Try.func8, Try.ntmps8
    go_wp2_with fail
    go_ret
    exact ⟨rfl, Below.refl _ _⟩
  clear hl
  go_enter Try.func8, Try.ntmps8
  go_wp2_with fail
  refine HC.out.mono ?_
  rintro e w1 ⟨ds, X, cx, x, rfl, ⟨h1, h2, h3, h4, h5⟩, hxi, hb1⟩
  have hs : sizeD ds ≤ 1048576 := by omega
  have HL := Lib.hid (show LiesD w1 0 w1.heap.size X ds from h1.mono_ (Nat.zero_le _) (Nat.le_refl _))
  have HB := Lib.hid hb1
  have HIM := Lib.hid (fun (y : Int) V (hV : Below w1.heap.size w1 V) => implLevel_r ds X cx 0 w1.heap.size y V (HL.out.below hV) hV.size hs)
  have HIC := Lib.hid (HIM.out x w1 (Below.refl _ _))
  have HSC := Lib.hid (fun V (hV : Below w1.heap.size w1 V) => specLevel_any ds X cx x V (HL.out.up hV) hs)
  obtain ⟨n, hn⟩ : ∃ n, n = lvlV ds x := ⟨_, rfl⟩
  obtain ⟨ok, hokb⟩ : ∃ b, b = lvlB ds x := ⟨_, rfl⟩
  rw [← hn, ← hokb] at HIC HSC
  have HN := Lib.hid hn
  have HOKB := Lib.hid hokb
  have hdl : ds.length ≤ 100 := h4
  clear h1 h2 h3 h5 hb1 HC hn hokb hxi
  go_wp2_with fail
  refine HIC.out.mono ?_
  rintro e w2 ⟨rfl, hb2⟩
  have HB2 := Lib.hid hb2
  clear hb2 HIC
  go_wp2_with fail
  refine (HSC.out w2 HB2.out).mono ?_
  rintro e w3 ⟨rfl, hb3⟩
  have HB3 := Lib.hid (HB2.out.trans (hb3.mono HB2.out.size))
  clear hb3 HSC HB2
  cases ok with
  | false =>
    have hn0 : n = 0 := by rw [HN.out]; exact lvlB_no HOKB.out.symm
    subst hn0
    have HB9 := Lib.hid (HB.out.trans (HB3.out.mono HB.out.size))
    go_wp2_with fail
    go_ret
    exact ⟨rfl, HB9.out⟩
  | true =>
    obtain ⟨p, d, hp1, hp2, hp3, hsm, hca, hln, hen, hz0⟩ := lvl_law HOKB.out.symm
    rw [← HN.out] at hca hln hz0
    obtain ⟨cl, hcl⟩ : ∃ z, z = numsUpto (callB ⟨d.op, d.n, d.k⟩) 8 := ⟨_, rfl⟩
    have hcll : cl.length ≤ 8 := by rw [hcl]; exact numsUpto_len _ 8
    have HCLI := Lib.hid (show ∀ y ∈ cl, I64 y by rw [hcl]; exact fun y hy => numsUpto_small _ 8 y (Nat.le_refl _) hy)
    rw [← hcl] at hca hz0
    have hsd := sizeD_at hp3
    have HF := Lib.hid (implFind_any ds X cx w3 x (HL.out.up HB3.out) (by omega))
    unfold FindPost at HF
    rw [hp1, if_pos hp2, decide_eq_true hp2] at HF
    have HP3 := Lib.hid hp3
    have HCL := Lib.hid hcl
    have HCA := Lib.hid hca
    have HZ0 := Lib.hid hz0
    have hpi : (p : Int) < (ds.length : Int) := by omega
    have hlni : (n : Int) < (ds.length : Int) := by omega
    have HEN := Lib.hid hen
    clear hp1 hp3 hcl hca hz0 hen
    go_wp2_with fail
    refine HF.out.mono ?_
    rintro e w4 ⟨rfl, hb4⟩
    have HB4 := Lib.hid (HB3.out.trans (hb4.mono HB3.out.size))
    clear hb4 HF HB3
    obtain ⟨b, o, A', c', hA, _, hbb, hf', g1, g2, g3, g4, g5, g6, h7, h8, h9⟩ := (HL.out.below HB4.out) p d HP3.out
    subst hA
    have HCC := Lib.hid (implCalls_r d.op d.n d.k A' c' 0 w4.heap.size w4 (h9.mono_ (Nat.le_refl _) HB4.out.size) (Nat.le_refl _) (.small hsm) h7 h8 (by omega))
    rw [← HCL.out] at HCC
    clear h7 h8 h9 hf' hsm
    go_wp2_with fail
    refine HCC.out.mono ?_
    rintro e w5 ⟨v5, rfl, ho5, hb5⟩
    obtain ⟨A5, c5, rfl, hI5⟩ := own_ints ho5 HCLI.out
    have HI5 := Lib.hid (show LiesI w5 0 w5.heap.size A5 cl from hI5.mono_ (Nat.zero_le _) (Nat.le_refl _))
    have HB5 := Lib.hid (HB4.out.trans (hb5.mono HB4.out.size))
    clear ho5 hI5 hb5 HCC HB4 g1 g2 g3 g4 g5 g6
    go_wp2_with fail
    go_loopw [12] (fun i wr => ∃ (j : Nat), j ≤ cl.length ∧ i = .int .i64 (j : Int) ∧ Below w5.heap.size w5 wr) (fun i _ => cl.length - (intOf i).toNat)
    case atStart => exact ⟨0, Nat.zero_le _, rfl, Below.refl _ _⟩
    case round =>
      obtain ⟨j, hj, rfl, hbr⟩ := hrel
      have HBR := Lib.hid hbr
      clear hbr
      by_cases hlt : j < cl.length
      · have hji : (j : Int) < (cl.length : Int) := by omega
        have e1 := List.getElem?_eq_getElem hlt
        have hym := List.getElem_mem hlt
        generalize cl[j] = y at e1 hym
        obtain ⟨b2, o2, hA2, _, hbb2, hy2, g7⟩ := (HI5.out.below HBR.out) j y e1
        subst hA2
        obtain ⟨hy3, hy4⟩ := HCA.out y hym
        have HQ := Lib.hid (HIM.out y wr (HB5.out.trans (HBR.out.mono HB5.out.size)))
        rw [hy3] at HQ
        generalize lvlV ds y = m at HQ hy4
        have hmi : ¬ (n : Int) ≤ (m : Int) := by omega
        clear e1 hym hy3
        go_wp2_with fail
        refine HQ.out.mono ?_
        rintro e w6 ⟨rfl, hb6⟩
        have HB6 := Lib.hid (HBR.out.trans (hb6.mono HBR.out.size))
        clear hb6 HQ g7
        go_wp2_with fail
        go_roundw
        case rel => exact ⟨j + 1, hlt, by go_num, HB6.out⟩
        case measure => simp [intOf]; omega
      · have hji : ¬ (j : Int) < (cl.length : Int) := by omega
        have HB6 := Lib.hid (HB5.out.trans (HBR.out.mono HB5.out.size))
        have HEF := Lib.hid (implEndingFuns_r ds _ cx 0 w1.heap.size wr (HL.out.below HB6.out) HB6.out.size hs)
        clear HBR
        go_wp2_with fail
        refine HEF.out.mono ?_
        rintro e w7 ⟨v7, rfl, ho7, hb7⟩
        obtain ⟨A7, c7, rfl, hI7⟩ := own_ints ho7 (fun x hx => funsP_small x hx)
        have HB7 := Lib.hid (HB6.out.trans (hb7.mono HB6.out.size))
        have HAM := Lib.hid (amIn_any (funsP (endingS ds) ds) A7 c7 x w7 (hI7.mono_ (Nat.zero_le _) (Nat.le_refl _)) (Nat.le_trans (funsP_len _ ds) (by decide)))
        rw [HEN.out] at HAM
        clear ho7 hI7 hb7 HEF HB6
        go_wp2_with fail
        refine HAM.out.mono ?_
        rintro e w8 ⟨rfl, hb8⟩
        have HB8 := Lib.hid (HB.out.trans ((HB7.out.trans (hb8.mono HB7.out.size)).mono HB.out.size))
        have HZI := Lib.hid (show decide ((n : Int) = 0) = decide ((cl.length : Int) = 0) by
          have h1 := decide_eq_decide.1 HZ0.out
          exact decide_eq_decide.2 ⟨fun h => by have := h1.1 (by omega); omega, fun h => by have := h1.2 (by omega); omega⟩)
        clear hb8 HAM HB7
        go_wp2_with fail
        go_ret
        exact ⟨ret_bool (by first | exact decide_eq_true HZI.out | (rw [show ((n : Int) == 0) = ((cl.length : Int) == 0) from HZI.out]; simp) | simp [show ((n : Int) == 0) = ((cl.length : Int) == 0) from HZI.out]), HB8.out⟩
end Go.Proofs.Ytdconngmobpkoaa
