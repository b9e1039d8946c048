/-
  spec.OrderOfFuns (made by gen_ord.py).
-/
import Derived.Test.YtdconngmobpkoaaOrdI
import Derived.Test.YtdconngmobpkoaaGraS
import Derived.Test.YtdconngmobpkoaaLibVS
import Derived.Test.YtdconngmobpkoaaCallsM
import Derived.Test.YtdconngmobpkoaaFresh
import Derived.Maps.AppendAt
namespace Go.Proofs.Ytdconngmobpkoaa
open Go.RowKit Go.Shelf
set_option maxRecDepth 100000

theorem own_empty1 (w : World) (base : Nat) (hb : base ≤ w.heap.size) : (w.alloc (Obj.cells #[] 3)).ownsRow base 3 1 (.slice (some ⟨w.heap.size, 0, none⟩) 0 0) 0 [] :=
  ⟨rfl, .inr ⟨w.heap.size, 0, #[], rfl, hb, heap_alloc_new _ _, Nat.le_refl _, by decide, rfl, rfl⟩⟩
/-- The name of the first one for which something holds, or -1. -/
def fdI (p : De → Bool) (l : List De) : Int := match l.find? p with | some d => d.nm | none => -1
theorem find_take {p : De → Bool} {ds : List De} {j : Nat} {d : De} (h : ds[j]? = some d) (hn : (ds.take j).find? p = none) : (ds.take (j + 1)).find? p = if p d then some d else none := by
  rw [List.take_add_one, h, List.find?_append, hn]
  show [d].find? p = _
  rw [List.find?_cons]
  cases p d <;> rfl
theorem find_more {p : De → Bool} {ds : List De} {j : Nat} {d : De} (h : (ds.take j).find? p = some d) : ds.find? p = some d := by
  have h4 := List.take_append_drop j ds
  rw [← h4, List.find?_append, h]
  rfl
theorem all_take {q : Int → Bool} {zs : List Int} {j : Nat} {x : Int} (h : zs[j]? = some x) : (zs.take (j + 1)).all q = ((zs.take j).all q && q x) := by
  rw [List.take_add_one, h, List.all_append]
  simp
theorem all_cut {q : Int → Bool} {zs : List Int} {j : Nat} (h : (zs.take j).all q = false) : zs.all q = false := by
  have h4 := List.take_append_drop j zs
  rw [← h4, List.all_append, h]
  rfl
theorem ready_is {ds : List De} (hok : libOk ds = true) {out : List Int} (ho : OrdI ds out) {d : De} (hd : d ∈ ds) : readyD (inL out) d = (!decide (d.nm ∈ out) && (numsUpto (callB ⟨d.op, d.n, d.k⟩) 8).all fun x => decide (x ∈ out)) := by
  have h1 := ho.nums hok
  unfold readyD endBel
  rw [inL_mem (libOk_named hok d hd).1 h1]
  congr 1
  show allT (inL out) (numsUpto (callB ⟨d.op, d.n, d.k⟩) 8) = _
  have h2 : ∀ zs : List Int, (∀ x ∈ zs, inVar x = true) → allT (inL out) zs = zs.all fun x => decide (x ∈ out) := by
    intro zs
    induction zs with
    | nil => intro _; rfl
    | cons x r ih =>
      intro hm
      have ih2 := ih fun y hy => hm y (List.mem_cons_of_mem _ hy)
      unfold allT at ih2 ⊢
      rw [List.any_cons, List.all_cons, Bool.not_or, ih2, inL_mem (hm x (List.mem_cons_self ..)) h1, Bool.not_not]
  exact h2 _ (nums_in _)

set_option maxHeartbeats 4000000 in
theorem specOrder_any (ds : List De) (DA : Option Addr) (DC : Nat) (w : World) (hd : LiesD w 0 w.heap.size DA ds) (hdz : sizeD ds ≤ 1048576) :
    Calls Try.prog 18 #[.slice DA ds.length DC] w (ListBPost (orderV ds) (orderB ds) w) := by
  have hds := Nat.le_trans (sizeD_len ds) hdz
  have own0 : (w.alloc (Obj.cells #[] 3)).ownsRow w.heap.size 3 1 (.slice (some ⟨w.heap.size, 0, none⟩) 0 0) 0 [] :=
    ⟨rfl, .inr ⟨w.heap.size, 0, #[], rfl, Nat.le_refl _, heap_alloc_new _ _, Nat.le_refl _, by decide, rfl, rfl⟩⟩
  have hb1 : Below w.heap.size w (w.alloc (Obj.cells #[] 3)) := (Below.refl _ _).alloc (Nat.le_refl _) _
  have HOWN := Lib.hid own0
  have HB1 := Lib.hid hb1
  have HD := Lib.hid hd
  have HV := Lib.hid (specLibValid_any ds DA DC _ (hd.up hb1) hdz)
  clear own0 hb1 hd
  cases hok : libOk ds with
  | false =>
    have hb0 : orderB ds = false := by unfold orderB; rw [hok]; rfl
    rw [hok] at HV
    have HZ := Lib.hid (orderV_no hb0)
    rw [hb0]
    clear hok hb0
    go_enter Try.func18, Try.ntmps18
    go_wp2_with fail
    refine HV.out.mono ?_
    rintro e w2 ⟨rfl, hb2⟩
    have HPOST := Lib.hid (show ListBPost (orderV ds) false w (.returned (.tuple #[.slice (some ⟨w.heap.size, 0, none⟩) 0 0, .bool false])) w2 from ⟨_, rfl, by rw [HZ.out]; exact own_below HOWN.out hb2, HB1.out.trans (hb2.mono HB1.out.size)⟩)
    clear hb2 HV HZ HOWN HB1
    go_wp2_with fail
    refine bodyPost_ret (v := .tuple #[.slice (some ⟨w.heap.size, 0, none⟩) 0 0, .bool false]) ?_ rfl HPOST.out
    simp [results, Try.f18, go_sem]
  | true =>
    have HOK := Lib.hid hok
    have HB9 := Lib.hid (show orderB ds = decide ((orderL ds).length = ds.length) by unfold orderB; rw [hok]; rfl)
    rw [hok] at HV
    have hl8 := libOk_len hok
    clear hok
    go_enter Try.func18, Try.ntmps18
    go_wp2_with fail
    refine HV.out.mono ?_
    rintro e w2 ⟨rfl, hb2⟩
    have HO2 := Lib.hid (own_below HOWN.out hb2)
    have HB2 := Lib.hid (HB1.out.trans (hb2.mono HB1.out.size))
    clear hb2 HV HOWN HB1
    go_wp2_with fail
    go_loopg [4] ds.length (fun gk v wr => ∃ out, OrdI ds out ∧ gk + out.length = ds.length ∧ wr.ownsRow w.heap.size 3 1 v out.length (out.map (Value.int .i64)) ∧ Below w.heap.size w wr)
    case atStart => exact ⟨[], .nil, by simp, HO2.out, HB2.out⟩
    case round =>
      clear HB2 HO2
      obtain ⟨wo, rfl⟩ : ∃ wo : World, wo = wr := ⟨_, rfl⟩
      obtain ⟨out, hoi, hgk, hown, hb⟩ := hrel
      have hoi64 : ∀ x ∈ out, I64 x := fun x hx => by have := inVar_true (hoi.nums HOK.out x hx); unfold I64; omega
      obtain ⟨Ao, co, rfl, hIo⟩ := own_ints hown hoi64
      have hlo := hoi.len
      have HI := Lib.hid (show LiesI wo 0 wo.heap.size Ao out from hIo.mono_ (Nat.zero_le _) (Nat.le_refl _))
      have HOI := Lib.hid hoi
      have HGK := Lib.hid hgk
      have HOW := Lib.hid hown
      have HB := Lib.hid hb
      clear hoi hgk hown hb hIo hoi64
      by_cases hlt : out.length < ds.length
      · have hlti : (out.length : Int) < (ds.length : Int) := by omega
        go_wp2_with fail
        go_loopw [5, 6] (fun f i wx => ∃ (j : Nat), j ≤ ds.length ∧ i = .int .i64 (j : Int) ∧ f = .int .i64 (fdI (readyD (inL out)) (ds.take j)) ∧ Below wo.heap.size wo wx)
          (fun _ i _ => ds.length - (intOf i).toNat)
        case atStart => exact ⟨0, Nat.zero_le _, rfl, rfl, Below.refl _ _⟩
        case round =>
          obtain ⟨wx, rfl⟩ : ∃ wx : World, wx = wr := ⟨_, rfl⟩
          obtain ⟨j, hj, rfl, rfl, hbx⟩ := hrel
          have HBX := Lib.hid hbx
          clear hbx
          by_cases hjl : j < ds.length
          · have hjli : (j : Int) < (ds.length : Int) := by omega
            cases hfd : (ds.take j).find? (readyD (inL out)) with
            | some d =>
              have hf0 : fdI (readyD (inL out)) (ds.take j) = d.nm := by unfold fdI; rw [hfd]
              have hnx : nxt ds out = some d := find_more hfd
              rw [hf0]
              have hnn := inVar_true (libOk_named HOK.out d (nxt_mem hnx).1).1
              have hmore := HOI.out.more hnx
              have hll : out.length ≤ 8 := by omega
              have HNI := Lib.hid (HOI.out.add hnx)
              have HOWx := Lib.hid (own_below HOW.out HBX.out)
              have HBw := Lib.hid (HB.out.trans (HBX.out.mono HB.out.size))
              have hneg : ¬ d.nm < 0 := by omega
              clear hf0 hfd
              obtain ⟨iT, hiT, hiz0, hiz1, hiz2⟩ := info_parts (show (Try.prog.info? 3).map (fun i => (i.zero, i.size, i.bytes)) = some (some (.int .i64 0), 1, 8) by kernel_rfl)
              have HIT := Lib.hid hiT
              have HIZ0 := Lib.hid hiz0
              have HIZ1 := Lib.hid hiz1
              have HIZ2 := Lib.hid hiz2
              have C1 := Lib.hid (fresh_cells wx 3 #[Value.int .i64 d.nm])
              have HC2 := Lib.hid (show ∀ u ∈ [Value.int .i64 d.nm], u.oneCell' = true by intro u hu; rw [List.mem_singleton.1 hu]; rfl)
              have HC3 := Lib.hid (show (out).length + 1 ≤ maxLen by unfold maxLen; omega)
              have HC4 := Lib.hid (show ((out).length + 1) * 8 ≤ 140737488355328 by omega)
              have HC5 := Lib.hid (show w.heap.size ≤ (wx.alloc (.cells #[Value.int .i64 d.nm] 3)).heap.size by have := HBw.out.size; rw [World.size_alloc]; omega)
              have HOA := Lib.hid (HOWx.out.alloc (.cells #[Value.int .i64 d.nm] 3))
              clear hiT hiz0 hiz1 hiz2
              go_wp2_with (at_builtin; refine wpList_append_own_at _ rfl _ _ 24 rfl (w.heap.size) 3 iT _ 1 8 Try.underlying24 HIT.out HIZ0.out HIZ1.out HIZ2.out rfl (by decide) _ _ _ rfl HOA.out ⟨wx.heap.size, 0, none⟩ 1 1 [Value.int .i64 d.nm] rfl rfl C1.out HC2.out HC3.out HC4.out HC5.out ?_; intro v' w' hown5 hgrow5 _ hblk)
              have hb5 : Below w.heap.size w w' := Below.grown (HBw.out.alloc HBw.out.size (.cells #[Value.int .i64 d.nm] 3)) hgrow5 (Nat.le_trans (by omega) HC5.out) (fun g' hg' => by have := own_at_least HOWx.out hg'; omega)
              have HO5 := Lib.hid hown5
              have HB5 := Lib.hid hb5
              clear hown5 hgrow5 hblk hb5
              go_wp2_with fail
              have h1 := HGK.out
              go_roundg (ds.length - (out.length + 1))
              case measure => omega
              case rel => exact ⟨out ++ [d.nm], HNI.out, by rw [List.length_append, List.length_singleton]; omega, by rw [List.length_append, List.map_append]; exact HO5.out, HB5.out⟩
            | none =>
              have hf0 : fdI (readyD (inL out)) (ds.take j) = -1 := by unfold fdI; rw [hfd]
              rw [hf0]
              have e1 := List.getElem?_eq_getElem hjl
              generalize ds[j] = d at e1
              have hdm : d ∈ ds := List.mem_of_getElem? e1
              have hsd := sizeD_at e1
              have HST := Lib.hid (find_take e1 hfd)
              have HRD := Lib.hid (ready_is HOK.out HOI.out hdm)
              obtain ⟨b, o, A', c', hA, _, hbb, hf', g1, g2, g3, g4, g5, g6, h7, h8, h9⟩ := (HD.out.below ((HB.out.trans (HBX.out.mono HB.out.size)))) j d e1
              subst hA
              have hb8 := World.block_lt_of_cell? _ _ g1
              have HH1 := Lib.hid (l1Has_any out Ao co d.nm wx (HI.out.up HBX.out) (by omega))
              have HLX := Lib.hid (h9.mono_ (Nat.le_refl _) (HB.out.trans (HBX.out.mono HB.out.size)).size)
              have HG := Lib.hid (show ∀ V, Below wx.heap.size wx V → V.cell? ⟨b, o + j * 6, none⟩ = some (.int .i64 d.nm) ∧ V.cell? ⟨b, o + j * 6 + 3, none⟩ = some (.int .i64 d.op) ∧ V.cell? ⟨b, o + j * 6 + 4, none⟩ = some (.int .i64 d.n) ∧ V.cell? ⟨b, o + j * 6 + 5, none⟩ = some (.slice A' d.k.len c') from fun V hV =>
                ⟨(hV.cell (p := ⟨b, o + j * 6, none⟩) hb8).trans g1, (hV.cell (p := ⟨b, o + j * 6 + 3, none⟩) hb8).trans g4, (hV.cell (p := ⟨b, o + j * 6 + 4, none⟩) hb8).trans g5, (hV.cell (p := ⟨b, o + j * 6 + 5, none⟩) hb8).trans g6⟩)
              clear hf0 hfd e1 g2 g3 g4 g5 g6 h7 h8 h9 hf' hdm hb8
              go_wp2_with fail
              refine HH1.out.mono ?_
              rintro e w3 ⟨rfl, hb3⟩
              have HB3 := Lib.hid hb3
              obtain ⟨s0, s3, s4, s5⟩ := HG.out w3 hb3
              clear hb3 HH1 g1
              go_wp2_with fail
              refine (specCalls_any d.op d.n d.k A' c' w3 (HLX.out.up HB3.out) (by omega)).mono ?_
              rintro e w4 ⟨v4, rfl, ho4, hb4⟩
              obtain ⟨zs, hzs⟩ : ∃ zs, zs = numsUpto (callB ⟨d.op, d.n, d.k⟩) 8 := ⟨_, rfl⟩
              have hzl : zs.length ≤ 8 := by rw [hzs]; exact numsUpto_len _ 8
              rw [← hzs] at ho4 HRD
              obtain ⟨A4, c4, rfl, hI4⟩ := own_ints ho4 (fun x hx => numsUpto_small _ 8 x (Nat.le_refl _) (hzs ▸ hx))
              have HI4 := Lib.hid (show LiesI w4 0 w4.heap.size A4 zs from hI4.mono_ (Nat.zero_le _) (Nat.le_refl _))
              have HB4 := Lib.hid (HB3.out.trans (hb4.mono HB3.out.size))
              clear ho4 hI4 hb4 hzs s0 s3 s4 s5 HB3
              obtain ⟨r0, hr0⟩ : ∃ r, r = !decide (d.nm ∈ out) := ⟨_, rfl⟩
              rw [← hr0] at HRD ⊢
              clear hr0
              go_wp2_with fail
              go_loopw [7, 9] (fun r k wy => ∃ (q : Nat), q ≤ zs.length ∧ k = .int .i64 (q : Int) ∧ r = .bool (r0 && (zs.take q).all fun x => decide (x ∈ out)) ∧ Below w4.heap.size w4 wy)
                (fun _ k _ => zs.length - (intOf k).toNat)
              case atStart => exact ⟨0, Nat.zero_le _, rfl, by simp, Below.refl _ _⟩
              case round =>
                obtain ⟨wy, rfl⟩ : ∃ wy : World, wy = wr := ⟨_, rfl⟩
                obtain ⟨q, hq, rfl, rfl, hby⟩ := hrel
                have HBY := Lib.hid hby
                clear hby
                have HB5 := Lib.hid (HBX.out.trans ((HB4.out.trans (HBY.out.mono HB4.out.size)).mono HBX.out.size))
                by_cases hql : q < zs.length
                · have hqli : (q : Int) < (zs.length : Int) := by omega
                  have e2 := List.getElem?_eq_getElem hql
                  generalize zs[q] = x at e2
                  obtain ⟨b2, o2, hA2, _, hbb2, hx2, g7⟩ := (HI4.out.below HBY.out) q x e2
                  subst hA2
                  cases hacc : (r0 && (zs.take q).all fun x => decide (x ∈ out)) with
                  | true =>
                    have HS2 := Lib.hid (show (r0 && (zs.take (q + 1)).all fun x => decide (x ∈ out)) = decide (x ∈ out) by rw [all_take e2, ← Bool.and_assoc, hacc, Bool.true_and])
                    have HH2 := Lib.hid (l1Has_any out Ao co x wy (HI.out.up HB5.out) (by omega))
                    clear hacc e2
                    go_wp2_with fail
                    refine HH2.out.mono ?_
                    rintro e w6 ⟨rfl, hb6⟩
                    have HB6 := Lib.hid (HBY.out.trans (hb6.mono HBY.out.size))
                    clear hb6 HH2 g7
                    go_wp2_with fail
                    go_roundw
                    case rel => exact ⟨q + 1, hql, by go_num, by rw [HS2.out], HB6.out⟩
                    case measure => simp [intOf]; omega
                  | false =>
                    have HF := Lib.hid (show readyD (inL out) d = false by
                      rw [HRD.out]
                      cases r0 with
                      | false => rfl
                      | true => rw [Bool.true_and] at hacc ⊢; exact all_cut hacc)
                    have HST2 := Lib.hid (show fdI (readyD (inL out)) (ds.take (j + 1)) = -1 by unfold fdI; rw [HST.out, HF.out]; rfl)
                    clear hacc e2 g7
                    go_wp2_with fail
                    go_roundw
                    case rel => exact ⟨j + 1, hjl, by go_num, by rw [HST2.out], HB5.out⟩
                    case measure => simp [intOf]; omega
                · have hqli : ¬ (q : Int) < (zs.length : Int) := by omega
                  have hqe : zs.take q = zs := List.take_of_length_le (by omega)
                  rw [hqe, ← HRD.out]
                  obtain ⟨s0, s3, s4, s5⟩ := HG.out wy (HB4.out.trans (HBY.out.mono HB4.out.size))
                  cases hr : readyD (inL out) d with
                  | true =>
                    have HST2 := Lib.hid (show fdI (readyD (inL out)) (ds.take (j + 1)) = d.nm by unfold fdI; rw [HST.out, hr]; rfl)
                    clear hr hqe
                    go_wp2_with fail
                    go_roundw
                    case rel => exact ⟨j + 1, hjl, by go_num, by rw [HST2.out], HB5.out⟩
                    case measure => simp [intOf]; omega
                  | false =>
                    have HST2 := Lib.hid (show fdI (readyD (inL out)) (ds.take (j + 1)) = -1 by unfold fdI; rw [HST.out, hr]; rfl)
                    clear hr hqe
                    go_wp2_with fail
                    go_roundw
                    case rel => exact ⟨j + 1, hjl, by go_num, by rw [HST2.out], HB5.out⟩
                    case measure => simp [intOf]; omega
          · have hjli : ¬ (j : Int) < (ds.length : Int) := by omega
            have hje : ds.take j = ds := List.take_of_length_le (by omega)
            rw [hje]
            have HOWx := Lib.hid (own_below HOW.out HBX.out)
            have HBw := Lib.hid (HB.out.trans (HBX.out.mono HB.out.size))
            cases hnx : nxt ds out with
            | some d =>
              have hf0 : fdI (readyD (inL out)) ds = d.nm := by unfold fdI; rw [show ds.find? (readyD (inL out)) = some d from hnx]
              rw [hf0]
              have hnn := inVar_true (libOk_named HOK.out d (nxt_mem hnx).1).1
              have hmore := HOI.out.more hnx
              have hll : out.length ≤ 8 := by omega
              have HNI := Lib.hid (HOI.out.add hnx)
              have hneg : ¬ d.nm < 0 := by omega
              clear hf0 hnx hje
              obtain ⟨iT, hiT, hiz0, hiz1, hiz2⟩ := info_parts (show (Try.prog.info? 3).map (fun i => (i.zero, i.size, i.bytes)) = some (some (.int .i64 0), 1, 8) by kernel_rfl)
              have HIT := Lib.hid hiT
              have HIZ0 := Lib.hid hiz0
              have HIZ1 := Lib.hid hiz1
              have HIZ2 := Lib.hid hiz2
              have C1 := Lib.hid (fresh_cells wx 3 #[Value.int .i64 d.nm])
              have HC2 := Lib.hid (show ∀ u ∈ [Value.int .i64 d.nm], u.oneCell' = true by intro u hu; rw [List.mem_singleton.1 hu]; rfl)
              have HC3 := Lib.hid (show (out).length + 1 ≤ maxLen by unfold maxLen; omega)
              have HC4 := Lib.hid (show ((out).length + 1) * 8 ≤ 140737488355328 by omega)
              have HC5 := Lib.hid (show w.heap.size ≤ (wx.alloc (.cells #[Value.int .i64 d.nm] 3)).heap.size by have := HBw.out.size; rw [World.size_alloc]; omega)
              have HOA := Lib.hid (HOWx.out.alloc (.cells #[Value.int .i64 d.nm] 3))
              clear hiT hiz0 hiz1 hiz2
              go_wp2_with (at_builtin; refine wpList_append_own_at _ rfl _ _ 24 rfl (w.heap.size) 3 iT _ 1 8 Try.underlying24 HIT.out HIZ0.out HIZ1.out HIZ2.out rfl (by decide) _ _ _ rfl HOA.out ⟨wx.heap.size, 0, none⟩ 1 1 [Value.int .i64 d.nm] rfl rfl C1.out HC2.out HC3.out HC4.out HC5.out ?_; intro v' w' hown5 hgrow5 _ hblk)
              have hb5 : Below w.heap.size w w' := Below.grown (HBw.out.alloc HBw.out.size (.cells #[Value.int .i64 d.nm] 3)) hgrow5 (Nat.le_trans (by omega) HC5.out) (fun g' hg' => by have := own_at_least HOWx.out hg'; omega)
              have HO5 := Lib.hid hown5
              have HB5 := Lib.hid hb5
              clear hown5 hgrow5 hblk hb5
              go_wp2_with fail
              have h1 := HGK.out
              go_roundg (ds.length - (out.length + 1))
              case measure => omega
              case rel => exact ⟨out ++ [d.nm], HNI.out, by rw [List.length_append, List.length_singleton]; omega, by rw [List.length_append, List.map_append]; exact HO5.out, HB5.out⟩
            | none =>
              have hf0 : fdI (readyD (inL out)) ds = -1 := by unfold fdI; rw [show ds.find? (readyD (inL out)) = none from hnx]
              rw [hf0]
              have hb0 : orderB ds = false := by rw [HB9.out, ← HOI.out.last hnx]; exact decide_eq_false (by omega)
              have HPOST := Lib.hid (show ListBPost (orderV ds) (orderB ds) w (.returned (.tuple #[.slice (some ⟨wx.heap.size, 0, none⟩) 0 0, .bool false])) (wx.alloc (Obj.cells #[] 3)) from ⟨_, by rw [hb0], by rw [orderV_no hb0]; exact own_empty1 wx w.heap.size HBw.out.size, HBw.out.alloc HBw.out.size _⟩)
              clear hf0 hnx hje hb0
              go_wp2_with fail
              refine bodyPost_ret (v := .tuple #[.slice (some ⟨wx.heap.size, 0, none⟩) 0 0, .bool false]) ?_ rfl HPOST.out
              simp [results, Try.f18, go_sem]
      · have hlti : ¬ (out.length : Int) < (ds.length : Int) := by omega
        have hout := HOI.out.full (by omega)
        have hb1 : orderB ds = true := by rw [HB9.out, ← hout]; exact decide_eq_true (by omega)
        have HPOST := Lib.hid (show ListBPost (orderV ds) (orderB ds) w (.returned (.tuple #[.slice Ao out.length co, .bool true])) wo from ⟨_, by rw [hb1], by rw [orderV_yes hb1, ← hout]; exact HOW.out, HB.out⟩)
        clear hout hb1
        go_wp2_with fail
        refine bodyPost_ret (v := .tuple #[.slice Ao out.length co, .bool true]) ?_ rfl HPOST.out
        simp [results, Try.f18, go_sem]
end Go.Proofs.Ytdconngmobpkoaa
