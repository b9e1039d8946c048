/-
  impl.KeptFuns (made by gen_kepti.py).
-/
import Derived.Test.YtgmhpfdhkcgbfaaGreatKeptS
import Derived.Test.YtgmhpfdhkcgbfaaGreatISame
import Derived.Test.YtgmhpfdhkcgbfaaGreatFromIR
import Derived.Test.YtgmhpfdhkcgbfaaGreatQuietI
import Derived.Test.YtgmhpfdhkcgbfaaGreatSmall
namespace Go.Proofs.YtgmhpfdhkcgbfaaGreat
open Go.RowKit Go.Shelf
set_option maxRecDepth 100000

/-- A set of names made by a loop over a library. -/
def setT (p : Nat → Bool) (l : List De) (i : Nat) : Bool := l.any (fun d => decide (d.nm.toNat = i)) && p i
theorem setT_step {p : Nat → Bool} {ds : List De} {j : Nat} {d : De} {v : Nat} (h : ds[j]? = some d) (hv : v = d.nm.toNat) (h8 : v < 8) : (cells8 (setT p (ds.take j))).setIfInBounds v (.bool (p v)) = cells8 (setT p (ds.take (j + 1))) := by
  have e : ∀ i, setT p (ds.take (j + 1)) i = if i = v then p v else setT p (ds.take j) i := fun i => by
    unfold setT
    rw [List.take_add_one, h, List.any_append]
    by_cases hi : i = v
    · rw [if_pos hi, hi, hv]; simp
    · rw [if_neg hi]
      have : ¬ d.nm.toNat = i := fun h => hi (by rw [← h, hv])
      simp [this]
  unfold cells8
  have hc : v = 0 ∨ v = 1 ∨ v = 2 ∨ v = 3 ∨ v = 4 ∨ v = 5 ∨ v = 6 ∨ v = 7 := by omega
  rcases hc with h | h | h | h | h | h | h | h <;> subst h <;> simp [e]
theorem setT_at {p : Nat → Bool} {ds : List De} {d : De} (h : d ∈ ds) : setT p ds d.nm.toNat = p d.nm.toNat := by
  unfold setT
  rw [show ds.any (fun e => decide (e.nm.toNat = d.nm.toNat)) = true from List.any_eq_true.2 ⟨d, h, by simp⟩, Bool.true_and]
/-- What the second loop stores. -/
def keptP (ds1 ds2 : List De) (i : Nat) : Bool := match fnd (i : Int) ds1 with
  | some d => keptW ds1 ds2 d
  | none => false
theorem keptP_at {ds1 ds2 : List De} (h : libOk ds1 = true) {d : De} (hd : d ∈ ds1) : keptP ds1 ds2 d.nm.toNat = keptW ds1 ds2 d := by
  obtain ⟨hv, hf⟩ := libOk_named h d hd
  unfold keptP
  rw [(inVar_nat hv).1, hf]
theorem fromL_names {ds : List De} (h : libOk ds = true) {d : De} (hd : d ∈ ds) : ∀ x ∈ fromL ds d.op d.n d.k, inVar x = true ∧ ∃ e, e ∈ ds ∧ e.nm = x := by
  intro x hx
  have hf := body_callsFit h hd
  rw [fromL_yes h hf] at hx
  obtain ⟨v, h8, rfl, hs⟩ := numsUpto_mem 8 x hx
  obtain ⟨e, he⟩ := rch_there h hf v ((fromS_iff h hf v).1 hs)
  exact ⟨inVar_mk (by omega) (by omega), e, (fnd_mem he).1, (fnd_mem he).2⟩
/-- What the program stores is the program's word. -/
theorem keptW_is {ds1 ds2 : List De} (h : libOk ds1 = true) {d : De} (hd : d ∈ ds1) : keptW ds1 ds2 d = (setT (sameAt ds1 ds2) ds1 d.nm.toNat && allT (setT (sameAt ds1 ds2) ds1) (fromL ds1 d.op d.n d.k)) := by
  unfold keptW allT
  rw [setT_at hd]
  congr 1
  rw [Bool.eq_iff_iff, List.all_eq_true]
  simp only [Bool.not_eq_true', List.any_eq_false, Bool.not_eq_true', Bool.not_eq_false]
  constructor
  · intro h1 x hx
    obtain ⟨_, e, he, hn⟩ := fromL_names h hd x hx
    have := h1 x hx
    rw [← hn] at this ⊢
    rw [setT_at he]
    exact this
  · intro h1 x hx
    obtain ⟨_, e, he, hn⟩ := fromL_names h hd x hx
    have := h1 x hx
    rw [← hn] at this ⊢
    rw [setT_at he] at this
    exact this

set_option maxHeartbeats 16000000 in
theorem implKept_any (ds1 : List De) (A1 : Option Addr) (c1 : Nat) (ds2 : List De) (A2 : Option Addr) (c2 : Nat) (L1 B1 L2 B2 : Nat) (w : World) (hd1 : LiesD w L1 B1 A1 ds1) (hB1 : B1 ≤ w.heap.size) (_ha1 : AllRows w L1 B1) (hd2 : LiesD w L2 B2 A2 ds2) (hB2 : B2 ≤ w.heap.size) (_ha2 : AllRows w L2 B2) (hz1 : sizeD ds1 ≤ 1048576) (hz2 : sizeD ds2 ≤ 1048576) :
    Calls Tryz.prog 35 #[.slice A1 ds1.length c1, .slice A2 ds2.length c2] w (ListPost (keptL ds1 ds2) w) := by
  have hds1 := Nat.le_trans (sizeD_len ds1) hz1
  have hds2 := Nat.le_trans (sizeD_len ds2) hz2
  have HD1 := Lib.hid hd1
  have HD2 := Lib.hid hd2
  have HV1 := Lib.hid (implLibValid_r ds1 A1 c1 L1 B1 w hd1 hB1 hz1)
  obtain ⟨v1, hv1⟩ : ∃ v, v = libOk ds1 := ⟨_, rfl⟩
  obtain ⟨v2, hv2⟩ : ∃ v, v = libOk ds2 := ⟨_, rfl⟩
  have H1 := Lib.hid hv1
  have H2 := Lib.hid hv2
  clear hd1 hd2 hv1 hv2
  go_enter Tryz.func35, Tryz.ntmps35
  go_wp2_with fail
  refine HV1.out.mono ?_
  rintro e w0 ⟨rfl, hb0⟩
  rw [← H1.out]
  have HB0 := Lib.hid hb0
  clear hb0 HV1
  cases v1 with
  | false =>
    have HL := Lib.hid (show keptL ds1 ds2 = [] by unfold keptL keptOk; rw [← H1.out]; rfl)
    go_wp2_with fail
    go_ret
    exact ⟨_, rfl, by rw [HL.out]; exact World.ownsRow_nil _ _ _ _, HB0.out⟩
  | true =>
  have HV2 := Lib.hid (implLibValid_r ds2 A2 c2 L2 B2 w0 (HD2.out.below (HB0.out.mono hB2)) (Nat.le_trans hB2 HB0.out.size) hz2)
  go_wp2_with fail
  refine HV2.out.mono ?_
  rintro e w1 ⟨rfl, hb1⟩
  rw [← H2.out]
  have HB1 := Lib.hid (HB0.out.trans (hb1.mono HB0.out.size))
  clear hb1 HV2 HB0
  cases v2 with
  | false =>
    have HL := Lib.hid (show keptL ds1 ds2 = [] by unfold keptL keptOk; rw [← H1.out, ← H2.out]; rfl)
    go_wp2_with fail
    go_ret
    exact ⟨_, rfl, by rw [HL.out]; exact World.ownsRow_nil _ _ _ _, HB1.out⟩
  | true =>
  have HOK1 := Lib.hid H1.out.symm
  have HOK2 := Lib.hid H2.out.symm
  clear H1 H2
  go_wp2_with fail
  refine (defsByName_any ds2 A2 c2 w1 L2 B2 (HD2.out.below (HB1.out.mono hB2)) (Nat.le_trans hB2 HB1.out.size) hds2).mono ?_
  rintro e w2 ⟨es, rfl, hm, hent, hb2, hlt2⟩
  have HM := Lib.hid hm
  have HE := Lib.hid hent
  have HB2 := Lib.hid (HB1.out.trans (hb2.mono HB1.out.size))
  have HLT := Lib.hid hlt2
  clear hm hent hb2 hlt2 HB1
  obtain ⟨W1, hW1⟩ : ∃ W, W = w2.alloc (Obj.cells #[.bool false, .bool false, .bool false, .bool false, .bool false, .bool false, .bool false, .bool false] 53) := ⟨_, rfl⟩
  have HG := Lib.hid (show Row W1 w2.heap.size 53 (cells8 (setT (sameAt ds1 ds2) (ds1.take 0))) by rw [hW1]; exact Row.fresh _ _ _)
  have HBB := Lib.hid (show Below w2.heap.size w2 W1 by rw [hW1]; exact (Below.refl _ _).alloc (Nat.le_refl _) _)
  go_upto_region 5 with fail
  rw [← hW1]
  clear hW1
  go_wp2_with fail
  go_loopw [26] (fun i wr => ∃ (j : Nat), j ≤ ds1.length ∧ i = .int .i64 (j : Int) ∧ Row wr w2.heap.size 53 (cells8 (setT (sameAt ds1 ds2) (ds1.take j))) ∧ Below w2.heap.size w2 wr)
    (fun i _ => ds1.length - (intOf i).toNat)
  case atStart => exact ⟨0, by omega, rfl, HG.out, HBB.out⟩
  case round =>
    clear HG HBB
    obtain ⟨j, hj, rfl, hr, hb⟩ := hrel
    by_cases hlt : j < ds1.length
    · obtain ⟨d, hd⟩ : ∃ d, ds1[j]? = some d := ⟨_, List.getElem?_eq_getElem hlt⟩
      have hdm := List.mem_of_getElem? hd
      have hin := (libOk_named HOK1.out d hdm).1
      have hfn := (libOk_named HOK1.out d hdm).2
      obtain ⟨e0, e8⟩ := inVar_nat hin
      obtain ⟨b, o, A', c', rfl, _, hbw, hf, g0, g1, g2, g3, g4, g5, h7, h8, h9⟩ := (HD1.out.below ((HB2.out.trans (hb.mono HB2.out.size)).mono hB1)) j d hd
      obtain ⟨v, hv⟩ : ∃ v, v = d.nm.toNat := ⟨_, rfl⟩
      have hsteps := setT_step (p := sameAt ds1 ds2) hd hv (by rw [hv]; exact e8)
      have hks1 : d.k.size ≤ 1048576 := by have := sizeD_at hd; omega
      have HSM1 := Lib.hid (libOk_small HOK1.out d hdm)
      rw [← hv] at e0 e8
      rw [← e0] at g0 hfn
      have HFN := Lib.hid hfn
      have HIN := Lib.hid (show inVar ((v : Nat) : Int) = true by rw [e0]; exact hin)
      have HH9 := Lib.hid (h9.mono_ (Nat.zero_le _) (Nat.le_trans hB1 (Nat.le_trans HB2.out.size hb.size)))
      obtain ⟨Y, hY⟩ : ∃ Y, Y = wr.alloc (Obj.cells #[.int .i64 (v : Int), .int .i64 d.ar, .bool d.old, .int .i64 d.op, .int .i64 d.n, .slice A' d.k.len c'] 49) := ⟨_, rfl⟩
      have hbY : Below wr.heap.size wr Y := by rw [hY]; exact (Below.refl _ _).alloc (Nat.le_refl _) _
      have HX := Lib.hid (show Row Y wr.heap.size 49 #[.int .i64 (v : Int), .int .i64 d.ar, .bool d.old, .int .i64 d.op, .int .i64 d.n, .slice A' d.k.len c'] by rw [hY]; exact Row.fresh _ _ _)
      have HRY := Lib.hid (show Row Y w2.heap.size 53 (cells8 (setT (sameAt ds1 ds2) (ds1.take j))) by rw [hY]; exact hr.alloc _)
      have HBY := Lib.hid (hb.trans (hbY.mono hb.size))
      have HZW := Lib.hid (show w2.heap.size < wr.heap.size from hr.size)
      have HHY := Lib.hid (HH9.out.up hbY)
      have hji : (j : Int) < (ds1.length : Int) := by omega
      have HHS := Lib.hid hsteps
      clear hd hdm hin hfn e0 hv hf h9 hr hb hbY hsteps HH9
      go_upto_region 8 with fail
      rw [← hY]
      clear hY g0 g1 g2 g3 g4 g5
      -- what the map gives
      obtain ⟨y0, y1, y2, y3, y4, Y5, yl, y6, kn, hlo, hsome, hyk⟩ : ∃ y0 y1 y2 y3 y4 Y5 yl y6 kn, (ilook es (v : Int)).getD (.agg #[.int .i64 0, .int .i64 0, .bool false, .int .i64 0, .int .i64 0, .slice none 0 0]) = .agg #[.int .i64 y0, .int .i64 y1, .bool y2, .int .i64 y3, .int .i64 y4, .slice Y5 yl y6] ∧ (ilook es (v : Int)).isSome = kn ∧ ((kn = false ∧ sameAt ds1 ds2 v = false) ∨ (kn = true ∧ ∃ ey : De, y1 = ey.ar ∧ y3 = ey.op ∧ y4 = ey.n ∧ yl = ey.k.len ∧ Lies Y 0 Y.heap.size Y5 0 ey.k ∧ (ey.k.len ≤ y6 ∧ y6 ≤ maxLen) ∧ sameAt ds1 ds2 v = (decide (d.ar = ey.ar) && sameN d.op d.n d.k ey.op ey.n ey.k))) := by
        have hE := HE.out.below (HBY.out.mono (Nat.le_trans hB2 HB2.out.size))
        cases hf2 : fnd (v : Int) ds2 with
        | none => exact ⟨0, 0, false, 0, 0, none, 0, 0, false, by rw [hE.2 _ (.inr hf2)]; rfl, by rw [hE.2 _ (.inr hf2)]; rfl, .inl ⟨rfl, sameAt_none2 hf2⟩⟩
        | some ey =>
          obtain ⟨Ay, cy, k1, k2, k3, k4⟩ := hE.1 _ ey HIN.out hf2
          exact ⟨ey.nm, ey.ar, ey.old, ey.op, ey.n, Ay, ey.k.len, cy, true, by rw [k1]; rfl, by rw [k1]; rfl, .inr ⟨rfl, ey, rfl, rfl, rfl, rfl, k2.mono_ (Nat.zero_le _) (Nat.le_trans hB2 (Nat.le_trans HB2.out.size HBY.out.size)), ⟨k3, k4⟩, sameAt_both HFN.out hf2⟩⟩
      have hlk := im_lookup (P := Tryz.prog) (a := (v : Int)) Tryz.underlying74 Tryz.underlying3 (show (zeroValue 49).run Tryz.prog Y = .ok (.agg #[.int .i64 0, .int .i64 0, .bool false, .int .i64 0, .int .i64 0, .slice none 0 0]) Y by kernel_rfl) (HM.out.below HBY.out HLT.out)
      rw [hlo, hsome] at hlk
      have HYK := Lib.hid hyk
      clear hlo hsome hyk
      obtain ⟨V, hV⟩ : ∃ V, V = Y.alloc (Obj.cells #[.int .i64 y0, .int .i64 y1, .bool y2, .int .i64 y3, .int .i64 y4, .slice Y5 yl y6] 49) := ⟨_, rfl⟩
      have hbV : Below Y.heap.size Y V := by rw [hV]; exact (Below.refl _ _).alloc (Nat.le_refl _) _
      have HXD := Lib.hid (show Row V wr.heap.size 49 #[.int .i64 (v : Int), .int .i64 d.ar, .bool d.old, .int .i64 d.op, .int .i64 d.n, .slice A' d.k.len c'] by rw [hV]; exact HX.out.alloc _)
      have HXY := Lib.hid (show Row V Y.heap.size 49 #[.int .i64 y0, .int .i64 y1, .bool y2, .int .i64 y3, .int .i64 y4, .slice Y5 yl y6] by rw [hV]; exact Row.fresh _ _ _)
      have HRV := Lib.hid (show Row V w2.heap.size 53 (cells8 (setT (sameAt ds1 ds2) (ds1.take j))) by rw [hV]; exact HRY.out.alloc _)
      have HBV := Lib.hid (HBY.out.trans (hbV.mono HBY.out.size))
      have HGD := Lib.hid (show w2.heap.size < wr.heap.size from HZW.out)
      have HGY := Lib.hid (show w2.heap.size < Y.heap.size from Nat.lt_trans HZW.out HX.out.size)
      have HK1 := Lib.hid (HHY.out.up hbV)
      have HBVV := Lib.hid hbV
      have r0 := HX.out.cell (i := 0) rfl
      clear hbV
      go_upto_region 9 with fail
      rw [← hV]
      clear hV hlk r0
      have HS := Lib.hid (show ∀ w' : World, Only w2.heap.size V.heap.size V w' → w'.cell? ⟨wr.heap.size, 0, none⟩ = some (.int .i64 (v : Int)) ∧ w'.cell? ⟨wr.heap.size, 1, none⟩ = some (.int .i64 d.ar) ∧ w'.cell? ⟨wr.heap.size, 2, none⟩ = some (.bool d.old) ∧ w'.cell? ⟨wr.heap.size, 3, none⟩ = some (.int .i64 d.op) ∧ w'.cell? ⟨wr.heap.size, 4, none⟩ = some (.int .i64 d.n) ∧ w'.cell? ⟨wr.heap.size, 5, none⟩ = some (.slice A' d.k.len c') ∧ w'.cell? ⟨Y.heap.size, 0, none⟩ = some (.int .i64 y0) ∧ w'.cell? ⟨Y.heap.size, 1, none⟩ = some (.int .i64 y1) ∧ w'.cell? ⟨Y.heap.size, 2, none⟩ = some (.bool y2) ∧ w'.cell? ⟨Y.heap.size, 3, none⟩ = some (.int .i64 y3) ∧ w'.cell? ⟨Y.heap.size, 4, none⟩ = some (.int .i64 y4) ∧ w'.cell? ⟨Y.heap.size, 5, none⟩ = some (.slice Y5 yl y6) from fun w' ho => ⟨(ho.cell (p := ⟨wr.heap.size, 0, none⟩) HXD.out.size (Nat.ne_of_gt HGD.out)).trans (HXD.out.cell (i := 0) rfl), (ho.cell (p := ⟨wr.heap.size, 1, none⟩) HXD.out.size (Nat.ne_of_gt HGD.out)).trans (HXD.out.cell (i := 1) rfl), (ho.cell (p := ⟨wr.heap.size, 2, none⟩) HXD.out.size (Nat.ne_of_gt HGD.out)).trans (HXD.out.cell (i := 2) rfl), (ho.cell (p := ⟨wr.heap.size, 3, none⟩) HXD.out.size (Nat.ne_of_gt HGD.out)).trans (HXD.out.cell (i := 3) rfl), (ho.cell (p := ⟨wr.heap.size, 4, none⟩) HXD.out.size (Nat.ne_of_gt HGD.out)).trans (HXD.out.cell (i := 4) rfl), (ho.cell (p := ⟨wr.heap.size, 5, none⟩) HXD.out.size (Nat.ne_of_gt HGD.out)).trans (HXD.out.cell (i := 5) rfl), (ho.cell (p := ⟨Y.heap.size, 0, none⟩) HXY.out.size (Nat.ne_of_gt HGY.out)).trans (HXY.out.cell (i := 0) rfl), (ho.cell (p := ⟨Y.heap.size, 1, none⟩) HXY.out.size (Nat.ne_of_gt HGY.out)).trans (HXY.out.cell (i := 1) rfl), (ho.cell (p := ⟨Y.heap.size, 2, none⟩) HXY.out.size (Nat.ne_of_gt HGY.out)).trans (HXY.out.cell (i := 2) rfl), (ho.cell (p := ⟨Y.heap.size, 3, none⟩) HXY.out.size (Nat.ne_of_gt HGY.out)).trans (HXY.out.cell (i := 3) rfl), (ho.cell (p := ⟨Y.heap.size, 4, none⟩) HXY.out.size (Nat.ne_of_gt HGY.out)).trans (HXY.out.cell (i := 4) rfl), (ho.cell (p := ⟨Y.heap.size, 5, none⟩) HXY.out.size (Nat.ne_of_gt HGY.out)).trans (HXY.out.cell (i := 5) rfl)⟩)
      have OND := Lib.hid (Only.refl w2.heap.size V.heap.size V).drew
      have HDD := Lib.hid (Below.refl V.heap.size V).drew
      have s0 := HS.out _ OND.out
      have HP := Lib.hid (show Row (V.drew.setCell ⟨w2.heap.size, v, none⟩ (.bool false)) w2.heap.size 53 _ from (HRV.out.drew).put v (.bool false))
      have HBF := Lib.hid (show Below w2.heap.size w2 (V.drew.setCell ⟨w2.heap.size, v, none⟩ (.bool false)) from HBV.out.drew.setCell (p := ⟨w2.heap.size, v, none⟩) (Nat.le_refl _) (.bool false))
      have q9 := Row.cell (HRV.out.drew) (cells8_at (setT (sameAt ds1 ds2) (ds1.take j)) e8)
      have f9 := Row.free (HRV.out.drew) v
      have hv8 : (v : Int) < 8 := by omega
      rcases HYK.out with ⟨rfl, hsa⟩ | ⟨rfl, ey, rfl, rfl, rfl, rfl, hyl, hyc, hsa⟩
      · have HSTEP := Lib.hid (show (cells8 (setT (sameAt ds1 ds2) (ds1.take j))).setIfInBounds v (.bool false) = cells8 (setT (sameAt ds1 ds2) (ds1.take (j + 1))) by have := HHS.out; rw [hsa] at this; exact this)
        clear HYK hsa
        refine wp_region_held_drew (S := fun w' => w'.cell? ⟨wr.heap.size, 0, none⟩ = some (.int .i64 (v : Int)) ∧ w'.cell? ⟨wr.heap.size, 1, none⟩ = some (.int .i64 d.ar) ∧ w'.cell? ⟨wr.heap.size, 2, none⟩ = some (.bool d.old) ∧ w'.cell? ⟨wr.heap.size, 3, none⟩ = some (.int .i64 d.op) ∧ w'.cell? ⟨wr.heap.size, 4, none⟩ = some (.int .i64 d.n) ∧ w'.cell? ⟨wr.heap.size, 5, none⟩ = some (.slice A' d.k.len c') ∧ w'.cell? ⟨Y.heap.size, 0, none⟩ = some (.int .i64 y0) ∧ w'.cell? ⟨Y.heap.size, 1, none⟩ = some (.int .i64 y1) ∧ w'.cell? ⟨Y.heap.size, 2, none⟩ = some (.bool y2) ∧ w'.cell? ⟨Y.heap.size, 3, none⟩ = some (.int .i64 y3) ∧ w'.cell? ⟨Y.heap.size, 4, none⟩ = some (.int .i64 y4) ∧ w'.cell? ⟨Y.heap.size, 5, none⟩ = some (.slice Y5 yl y6)) (by kernel_rfl) s0 (fun hHeld => ?_)
        refine takeW 0 (v := ?vx1_0) rfl (by kernel_rfl) (fun _ _ _ h => h) (by rfl) (by assumption) ?yx1_0 ?rx1_0
        case yx1_0 => (intro w' hSw; (try dsimp only at hSw); go_simp; try with_reducible rfl)
        try simp only [Act.put, List.setIfInBounds_toArray, List.set_cons_zero, List.set_cons_succ, List.getElem_toArray, List.getElem_cons_zero]
        refine takeW 1 (v := ?vx1_1) rfl (by kernel_rfl) (fun _ _ _ h => h) (by rfl) (by assumption) ?yx1_1 ?rx1_1
        case yx1_1 => (intro w' hSw; (try dsimp only at hSw); go_simp; try with_reducible rfl)
        try simp only [Act.put, List.setIfInBounds_toArray, List.set_cons_zero, List.set_cons_succ, List.getElem_toArray, List.getElem_cons_succ, List.getElem_cons_zero]
        refine takeW 2 (v := ?vx1_2) rfl (by kernel_rfl) (fun _ _ _ h => h) (by rfl) (by assumption) ?yx1_2 ?rx1_2
        case yx1_2 => (intro w' hSw; (try dsimp only at hSw); go_simp; try with_reducible rfl)
        try simp only [Act.put, List.setIfInBounds_toArray, List.set_cons_zero, List.set_cons_succ, List.getElem_toArray, List.getElem_cons_succ, List.getElem_cons_zero]
        refine takeW 3 (v := ?vx1_3) rfl (by kernel_rfl) (fun _ _ _ h => h) (by rfl) (by assumption) ?yx1_3 ?rx1_3
        case yx1_3 => (intro w' hSw; (try dsimp only at hSw); go_simp; try with_reducible rfl)
        try simp only [Act.put, List.setIfInBounds_toArray, List.set_cons_zero, List.set_cons_succ, List.getElem_toArray, List.getElem_cons_succ, List.getElem_cons_zero]
        refine takeN 4 rfl (by kernel_rfl) (fun _ _ _ h => h) (by rfl) (by assumption) ?rx1_4
        try simp only [Act.put, List.setIfInBounds_toArray, List.set_cons_zero, List.set_cons_succ, List.getElem_toArray, List.getElem_cons_succ, List.getElem_cons_zero]
        refine takeN 5 rfl (by kernel_rfl) (fun _ _ _ h => h) (by rfl) (by assumption) ?rx1_5
        try simp only [Act.put, List.setIfInBounds_toArray, List.set_cons_zero, List.set_cons_succ, List.getElem_toArray, List.getElem_cons_succ, List.getElem_cons_zero]
        refine takeN 6 rfl (by kernel_rfl) (fun _ _ _ h => h) (by rfl) (by assumption) ?rx1_6
        try simp only [Act.put, List.setIfInBounds_toArray, List.set_cons_zero, List.set_cons_succ, List.getElem_toArray, List.getElem_cons_succ, List.getElem_cons_zero]
        refine takeN 7 rfl (by kernel_rfl) (fun _ _ _ h => h) (by rfl) (by assumption) ?rx1_7
        try simp only [Act.put, List.setIfInBounds_toArray, List.set_cons_zero, List.set_cons_succ, List.getElem_toArray, List.getElem_cons_succ, List.getElem_cons_zero]
        refine takeN 8 rfl (by kernel_rfl) (fun _ _ _ h => h) (by rfl) (by assumption) ?rx1_8
        try simp only [Act.put, List.setIfInBounds_toArray, List.set_cons_zero, List.set_cons_succ, List.getElem_toArray, List.getElem_cons_succ, List.getElem_cons_zero]
        refine takeW 9 (v := ?vx1_9) rfl (by kernel_rfl) (fun _ _ _ h => h) (by rfl) (by assumption) ?yx1_9 ?rx1_9
        case yx1_9 => (intro w' hSw; (try dsimp only at hSw); go_simp; try with_reducible rfl)
        try simp only [Act.put, List.setIfInBounds_toArray, List.set_cons_zero, List.set_cons_succ, List.getElem_toArray, List.getElem_cons_succ, List.getElem_cons_zero]
        refine takeW 10 (v := ?vx1_10) rfl (by kernel_rfl) (fun _ _ _ h => h) (by rfl) (by assumption) ?yx1_10 ?rx1_10
        case yx1_10 => (intro w' hSw; (try dsimp only at hSw); go_simp; try with_reducible rfl)
        try simp only [Act.put, List.setIfInBounds_toArray, List.set_cons_zero, List.set_cons_succ, List.getElem_toArray, List.getElem_cons_succ, List.getElem_cons_zero]
        refine takeN 11 rfl (by kernel_rfl) (fun _ _ _ h => h) (by rfl) (by assumption) ?rx1_11
        try simp only [Act.put, List.setIfInBounds_toArray, List.set_cons_zero, List.set_cons_succ, List.getElem_toArray, List.getElem_cons_succ, List.getElem_cons_zero]
        refine takeN 12 rfl (by kernel_rfl) (fun _ _ _ h => h) (by rfl) (by assumption) ?rx1_12
        try simp only [Act.put, List.setIfInBounds_toArray, List.set_cons_zero, List.set_cons_succ, List.getElem_toArray, List.getElem_cons_succ, List.getElem_cons_zero]
        refine takeN 13 rfl (by kernel_rfl) (fun _ _ _ h => h) (by rfl) (by assumption) ?rx1_13
        try simp only [Act.put, List.setIfInBounds_toArray, List.set_cons_zero, List.set_cons_succ, List.getElem_toArray, List.getElem_cons_succ, List.getElem_cons_zero]
        refine takeN 14 rfl (by kernel_rfl) (fun _ _ _ h => h) (by rfl) (by assumption) ?rx1_14
        try simp only [Act.put, List.setIfInBounds_toArray, List.set_cons_zero, List.set_cons_succ, List.getElem_toArray, List.getElem_cons_succ, List.getElem_cons_zero]
        refine takeN 15 rfl (by kernel_rfl) (fun _ _ _ h => h) (by rfl) (by assumption) ?rx1_15
        try simp only [Act.put, List.setIfInBounds_toArray, List.set_cons_zero, List.set_cons_succ, List.getElem_toArray, List.getElem_cons_succ, List.getElem_cons_zero]
        refine takeW 16 (v := ?vx1_16) rfl (by kernel_rfl) (fun _ _ _ h => h) (by rfl) (by assumption) ?yx1_16 ?rx1_16
        case yx1_16 => (intro w' hSw; (try dsimp only at hSw); go_simp; try with_reducible rfl)
        try simp only [Act.put, List.setIfInBounds_toArray, List.set_cons_zero, List.set_cons_succ, List.getElem_toArray, List.getElem_cons_succ, List.getElem_cons_zero]
        refine takeW 17 (v := ?vx1_17) rfl (by kernel_rfl) (fun _ _ _ h => h) (by rfl) (by assumption) ?yx1_17 ?rx1_17
        case yx1_17 => (intro w' hSw; (try dsimp only at hSw); go_simp; try with_reducible rfl)
        try simp only [Act.put, List.setIfInBounds_toArray, List.set_cons_zero, List.set_cons_succ, List.getElem_toArray, List.getElem_cons_succ, List.getElem_cons_zero]
        refine wpAnyH_ready (rs := [18]) (by kernel_rfl) (by simp) ?_
        refine AllReadyH.cons rfl (fun K hK => ?_) AllReadyH.nil
        go_simp
        have ON9 := Lib.hid (OND.out.set (p := ⟨w2.heap.size, v, none⟩) (.inl rfl) (.bool false))
        have sz := HS.out _ ON9.out
        refine hK.out _ _ (sz) (fun hHeldB1 => ?_)
        clear hK K
        try simp only [Act.put, List.setIfInBounds_toArray, List.set_cons_zero, List.set_cons_succ, List.getElem_toArray, List.getElem_cons_succ, List.getElem_cons_zero]
        refine wpAnyH_done (by kernel_rfl) ?_ _
        clear sz
        go_wp2_with fail
        go_roundw
        case rel => exact ⟨j + 1, by omega, by go_num, by rw [← HSTEP.out]; exact HP.out, HBF.out⟩
        case measure => simp [intOf]; omega
      · have HK2 := Lib.hid (hyl.up HBVV.out)
        have HY7 := Lib.hid hyc
        by_cases hne' : d.ar = ey.ar
        rotate_left
        · have hne : (d.ar == ey.ar) = false := by simpa using hne'
          have HSTEP := Lib.hid (show (cells8 (setT (sameAt ds1 ds2) (ds1.take j))).setIfInBounds v (.bool false) = cells8 (setT (sameAt ds1 ds2) (ds1.take (j + 1))) by have := HHS.out; rw [hsa, decide_eq_false hne'] at this; exact this)
          clear HYK hsa hyl hyc hne'
          refine wp_region_held_drew (S := fun w' => w'.cell? ⟨wr.heap.size, 0, none⟩ = some (.int .i64 (v : Int)) ∧ w'.cell? ⟨wr.heap.size, 1, none⟩ = some (.int .i64 d.ar) ∧ w'.cell? ⟨wr.heap.size, 2, none⟩ = some (.bool d.old) ∧ w'.cell? ⟨wr.heap.size, 3, none⟩ = some (.int .i64 d.op) ∧ w'.cell? ⟨wr.heap.size, 4, none⟩ = some (.int .i64 d.n) ∧ w'.cell? ⟨wr.heap.size, 5, none⟩ = some (.slice A' d.k.len c') ∧ w'.cell? ⟨Y.heap.size, 0, none⟩ = some (.int .i64 y0) ∧ w'.cell? ⟨Y.heap.size, 1, none⟩ = some (.int .i64 ey.ar) ∧ w'.cell? ⟨Y.heap.size, 2, none⟩ = some (.bool y2) ∧ w'.cell? ⟨Y.heap.size, 3, none⟩ = some (.int .i64 ey.op) ∧ w'.cell? ⟨Y.heap.size, 4, none⟩ = some (.int .i64 ey.n) ∧ w'.cell? ⟨Y.heap.size, 5, none⟩ = some (.slice Y5 ey.k.len y6)) (by kernel_rfl) s0 (fun hHeld => ?_)
          refine takeW 0 (v := ?vx3_0) rfl (by kernel_rfl) (fun _ _ _ h => h) (by rfl) (by assumption) ?yx3_0 ?rx3_0
          case yx3_0 => (intro w' hSw; (try dsimp only at hSw); go_simp; try with_reducible rfl)
          try simp only [Act.put, List.setIfInBounds_toArray, List.set_cons_zero, List.set_cons_succ, List.getElem_toArray, List.getElem_cons_zero]
          refine takeW 1 (v := ?vx3_1) rfl (by kernel_rfl) (fun _ _ _ h => h) (by rfl) (by assumption) ?yx3_1 ?rx3_1
          case yx3_1 => (intro w' hSw; (try dsimp only at hSw); go_simp; try with_reducible rfl)
          try simp only [Act.put, List.setIfInBounds_toArray, List.set_cons_zero, List.set_cons_succ, List.getElem_toArray, List.getElem_cons_succ, List.getElem_cons_zero]
          refine takeW 2 (v := ?vx3_2) rfl (by kernel_rfl) (fun _ _ _ h => h) (by rfl) (by assumption) ?yx3_2 ?rx3_2
          case yx3_2 => (intro w' hSw; (try dsimp only at hSw); go_simp; try with_reducible rfl)
          try simp only [Act.put, List.setIfInBounds_toArray, List.set_cons_zero, List.set_cons_succ, List.getElem_toArray, List.getElem_cons_succ, List.getElem_cons_zero]
          refine takeW 3 (v := ?vx3_3) rfl (by kernel_rfl) (fun _ _ _ h => h) (by rfl) (by assumption) ?yx3_3 ?rx3_3
          case yx3_3 => (intro w' hSw; (try dsimp only at hSw); go_simp; try with_reducible rfl)
          try simp only [Act.put, List.setIfInBounds_toArray, List.set_cons_zero, List.set_cons_succ, List.getElem_toArray, List.getElem_cons_succ, List.getElem_cons_zero]
          refine takeW 4 (v := ?vx3_4) rfl (by kernel_rfl) (fun _ _ _ h => h) (by rfl) (by assumption) ?yx3_4 ?rx3_4
          case yx3_4 => (intro w' hSw; (try dsimp only at hSw); go_simp; try with_reducible rfl)
          try simp only [Act.put, List.setIfInBounds_toArray, List.set_cons_zero, List.set_cons_succ, List.getElem_toArray, List.getElem_cons_succ, List.getElem_cons_zero]
          refine takeW 5 (v := ?vx3_5) rfl (by kernel_rfl) (fun _ _ _ h => h) (by rfl) (by assumption) ?yx3_5 ?rx3_5
          case yx3_5 => (intro w' hSw; (try dsimp only at hSw); go_simp; try with_reducible rfl)
          try simp only [Act.put, List.setIfInBounds_toArray, List.set_cons_zero, List.set_cons_succ, List.getElem_toArray, List.getElem_cons_succ, List.getElem_cons_zero]
          refine takeW 6 (v := ?vx3_6) rfl (by kernel_rfl) (fun _ _ _ h => h) (by rfl) (by assumption) ?yx3_6 ?rx3_6
          case yx3_6 => (intro w' hSw; (try dsimp only at hSw); go_simp; try with_reducible rfl)
          try simp only [Act.put, List.setIfInBounds_toArray, List.set_cons_zero, List.set_cons_succ, List.getElem_toArray, List.getElem_cons_succ, List.getElem_cons_zero]
          refine takeW 7 (v := ?vx3_7) rfl (by kernel_rfl) (fun _ _ _ h => h) (by rfl) (by assumption) ?yx3_7 ?rx3_7
          case yx3_7 => (intro w' hSw; (try dsimp only at hSw); go_simp; try with_reducible rfl)
          try simp only [Act.put, List.setIfInBounds_toArray, List.set_cons_zero, List.set_cons_succ, List.getElem_toArray, List.getElem_cons_succ, List.getElem_cons_zero]
          refine takeW 8 (v := .bool false) rfl (by kernel_rfl) (fun _ _ _ h => h) (by rfl) (by assumption) ?yx3_8 ?rx3_8
          case yx3_8 => (intro w' hSw; (try dsimp only at hSw); go_simp; try first | with_reducible rfl | simp [hne])
          try simp only [Act.put, List.setIfInBounds_toArray, List.set_cons_zero, List.set_cons_succ, List.getElem_toArray, List.getElem_cons_succ, List.getElem_cons_zero]
          refine takeW 9 (v := ?vx3_9) rfl (by kernel_rfl) (fun _ _ _ h => h) (by rfl) (by assumption) ?yx3_9 ?rx3_9
          case yx3_9 => (intro w' hSw; (try dsimp only at hSw); go_simp; try with_reducible rfl)
          try simp only [Act.put, List.setIfInBounds_toArray, List.set_cons_zero, List.set_cons_succ, List.getElem_toArray, List.getElem_cons_succ, List.getElem_cons_zero]
          refine takeW 10 (v := ?vx3_10) rfl (by kernel_rfl) (fun _ _ _ h => h) (by rfl) (by assumption) ?yx3_10 ?rx3_10
          case yx3_10 => (intro w' hSw; (try dsimp only at hSw); go_simp; try with_reducible rfl)
          try simp only [Act.put, List.setIfInBounds_toArray, List.set_cons_zero, List.set_cons_succ, List.getElem_toArray, List.getElem_cons_succ, List.getElem_cons_zero]
          refine takeN 11 rfl (by kernel_rfl) (fun _ _ _ h => h) (by rfl) (by assumption) ?rx3_11
          try simp only [Act.put, List.setIfInBounds_toArray, List.set_cons_zero, List.set_cons_succ, List.getElem_toArray, List.getElem_cons_succ, List.getElem_cons_zero]
          refine takeN 12 rfl (by kernel_rfl) (fun _ _ _ h => h) (by rfl) (by assumption) ?rx3_12
          try simp only [Act.put, List.setIfInBounds_toArray, List.set_cons_zero, List.set_cons_succ, List.getElem_toArray, List.getElem_cons_succ, List.getElem_cons_zero]
          refine takeN 13 rfl (by kernel_rfl) (fun _ _ _ h => h) (by rfl) (by assumption) ?rx3_13
          try simp only [Act.put, List.setIfInBounds_toArray, List.set_cons_zero, List.set_cons_succ, List.getElem_toArray, List.getElem_cons_succ, List.getElem_cons_zero]
          refine takeN 14 rfl (by kernel_rfl) (fun _ _ _ h => h) (by rfl) (by assumption) ?rx3_14
          try simp only [Act.put, List.setIfInBounds_toArray, List.set_cons_zero, List.set_cons_succ, List.getElem_toArray, List.getElem_cons_succ, List.getElem_cons_zero]
          refine takeN 15 rfl (by kernel_rfl) (fun _ _ _ h => h) (by rfl) (by assumption) ?rx3_15
          try simp only [Act.put, List.setIfInBounds_toArray, List.set_cons_zero, List.set_cons_succ, List.getElem_toArray, List.getElem_cons_succ, List.getElem_cons_zero]
          refine takeW 16 (v := ?vx3_16) rfl (by kernel_rfl) (fun _ _ _ h => h) (by rfl) (by assumption) ?yx3_16 ?rx3_16
          case yx3_16 => (intro w' hSw; (try dsimp only at hSw); go_simp; try with_reducible rfl)
          try simp only [Act.put, List.setIfInBounds_toArray, List.set_cons_zero, List.set_cons_succ, List.getElem_toArray, List.getElem_cons_succ, List.getElem_cons_zero]
          refine takeW 17 (v := ?vx3_17) rfl (by kernel_rfl) (fun _ _ _ h => h) (by rfl) (by assumption) ?yx3_17 ?rx3_17
          case yx3_17 => (intro w' hSw; (try dsimp only at hSw); go_simp; try with_reducible rfl)
          try simp only [Act.put, List.setIfInBounds_toArray, List.set_cons_zero, List.set_cons_succ, List.getElem_toArray, List.getElem_cons_succ, List.getElem_cons_zero]
          refine wpAnyH_ready (rs := [18]) (by kernel_rfl) (by simp) ?_
          refine AllReadyH.cons rfl (fun K hK => ?_) AllReadyH.nil
          go_simp
          have ON9 := Lib.hid (OND.out.set (p := ⟨w2.heap.size, v, none⟩) (.inl rfl) (.bool false))
          have sz := HS.out _ ON9.out
          refine hK.out _ _ (sz) (fun hHeldB1 => ?_)
          clear hK K
          try simp only [Act.put, List.setIfInBounds_toArray, List.set_cons_zero, List.set_cons_succ, List.getElem_toArray, List.getElem_cons_succ, List.getElem_cons_zero]
          refine wpAnyH_done (by kernel_rfl) ?_ _
          clear sz
          go_wp2_with fail
          go_roundw
          case rel => exact ⟨j + 1, by omega, by go_num, by rw [← HSTEP.out]; exact HP.out, HBF.out⟩
          case measure => simp [intOf]; omega
        · have hne : (d.ar == ey.ar) = true := by simpa using hne'
          obtain ⟨t9, ht9⟩ : ∃ t, sameN d.op d.n d.k ey.op ey.n ey.k = t := ⟨_, rfl⟩
          have HSAM := Lib.hid ht9
          have HSTEP := Lib.hid (show (cells8 (setT (sameAt ds1 ds2) (ds1.take j))).setIfInBounds v (.bool t9) = cells8 (setT (sameAt ds1 ds2) (ds1.take (j + 1))) by have := HHS.out; rw [hsa, decide_eq_true hne', ht9, Bool.true_and] at this; exact this)
          clear HYK hsa hyl hyc hne' ht9
          refine wp_region_held_drew (S := fun w' => w'.cell? ⟨wr.heap.size, 0, none⟩ = some (.int .i64 (v : Int)) ∧ w'.cell? ⟨wr.heap.size, 1, none⟩ = some (.int .i64 d.ar) ∧ w'.cell? ⟨wr.heap.size, 2, none⟩ = some (.bool d.old) ∧ w'.cell? ⟨wr.heap.size, 3, none⟩ = some (.int .i64 d.op) ∧ w'.cell? ⟨wr.heap.size, 4, none⟩ = some (.int .i64 d.n) ∧ w'.cell? ⟨wr.heap.size, 5, none⟩ = some (.slice A' d.k.len c') ∧ w'.cell? ⟨Y.heap.size, 0, none⟩ = some (.int .i64 y0) ∧ w'.cell? ⟨Y.heap.size, 1, none⟩ = some (.int .i64 ey.ar) ∧ w'.cell? ⟨Y.heap.size, 2, none⟩ = some (.bool y2) ∧ w'.cell? ⟨Y.heap.size, 3, none⟩ = some (.int .i64 ey.op) ∧ w'.cell? ⟨Y.heap.size, 4, none⟩ = some (.int .i64 ey.n) ∧ w'.cell? ⟨Y.heap.size, 5, none⟩ = some (.slice Y5 ey.k.len y6)) (by kernel_rfl) s0 (fun hHeld => ?_)
          refine takeW 0 (v := ?vx5_0) rfl (by kernel_rfl) (fun _ _ _ h => h) (by rfl) (by assumption) ?yx5_0 ?rx5_0
          case yx5_0 => (intro w' hSw; (try dsimp only at hSw); go_simp; try with_reducible rfl)
          try simp only [Act.put, List.setIfInBounds_toArray, List.set_cons_zero, List.set_cons_succ, List.getElem_toArray, List.getElem_cons_zero]
          refine takeW 1 (v := ?vx5_1) rfl (by kernel_rfl) (fun _ _ _ h => h) (by rfl) (by assumption) ?yx5_1 ?rx5_1
          case yx5_1 => (intro w' hSw; (try dsimp only at hSw); go_simp; try with_reducible rfl)
          try simp only [Act.put, List.setIfInBounds_toArray, List.set_cons_zero, List.set_cons_succ, List.getElem_toArray, List.getElem_cons_succ, List.getElem_cons_zero]
          refine takeW 2 (v := ?vx5_2) rfl (by kernel_rfl) (fun _ _ _ h => h) (by rfl) (by assumption) ?yx5_2 ?rx5_2
          case yx5_2 => (intro w' hSw; (try dsimp only at hSw); go_simp; try with_reducible rfl)
          try simp only [Act.put, List.setIfInBounds_toArray, List.set_cons_zero, List.set_cons_succ, List.getElem_toArray, List.getElem_cons_succ, List.getElem_cons_zero]
          refine takeW 3 (v := ?vx5_3) rfl (by kernel_rfl) (fun _ _ _ h => h) (by rfl) (by assumption) ?yx5_3 ?rx5_3
          case yx5_3 => (intro w' hSw; (try dsimp only at hSw); go_simp; try with_reducible rfl)
          try simp only [Act.put, List.setIfInBounds_toArray, List.set_cons_zero, List.set_cons_succ, List.getElem_toArray, List.getElem_cons_succ, List.getElem_cons_zero]
          refine takeW 4 (v := ?vx5_4) rfl (by kernel_rfl) (fun _ _ _ h => h) (by rfl) (by assumption) ?yx5_4 ?rx5_4
          case yx5_4 => (intro w' hSw; (try dsimp only at hSw); go_simp; try with_reducible rfl)
          try simp only [Act.put, List.setIfInBounds_toArray, List.set_cons_zero, List.set_cons_succ, List.getElem_toArray, List.getElem_cons_succ, List.getElem_cons_zero]
          refine takeW 5 (v := ?vx5_5) rfl (by kernel_rfl) (fun _ _ _ h => h) (by rfl) (by assumption) ?yx5_5 ?rx5_5
          case yx5_5 => (intro w' hSw; (try dsimp only at hSw); go_simp; try with_reducible rfl)
          try simp only [Act.put, List.setIfInBounds_toArray, List.set_cons_zero, List.set_cons_succ, List.getElem_toArray, List.getElem_cons_succ, List.getElem_cons_zero]
          refine takeW 6 (v := ?vx5_6) rfl (by kernel_rfl) (fun _ _ _ h => h) (by rfl) (by assumption) ?yx5_6 ?rx5_6
          case yx5_6 => (intro w' hSw; (try dsimp only at hSw); go_simp; try with_reducible rfl)
          try simp only [Act.put, List.setIfInBounds_toArray, List.set_cons_zero, List.set_cons_succ, List.getElem_toArray, List.getElem_cons_succ, List.getElem_cons_zero]
          refine takeW 7 (v := ?vx5_7) rfl (by kernel_rfl) (fun _ _ _ h => h) (by rfl) (by assumption) ?yx5_7 ?rx5_7
          case yx5_7 => (intro w' hSw; (try dsimp only at hSw); go_simp; try with_reducible rfl)
          try simp only [Act.put, List.setIfInBounds_toArray, List.set_cons_zero, List.set_cons_succ, List.getElem_toArray, List.getElem_cons_succ, List.getElem_cons_zero]
          refine takeW 8 (v := .bool true) rfl (by kernel_rfl) (fun _ _ _ h => h) (by rfl) (by assumption) ?yx5_8 ?rx5_8
          case yx5_8 => (intro w' hSw; (try dsimp only at hSw); go_simp; try first | with_reducible rfl | simp [hne])
          try simp only [Act.put, List.setIfInBounds_toArray, List.set_cons_zero, List.set_cons_succ, List.getElem_toArray, List.getElem_cons_succ, List.getElem_cons_zero]
          refine takeW 9 (v := ?vx5_9) rfl (by kernel_rfl) (fun _ _ _ h => h) (by rfl) (by assumption) ?yx5_9 ?rx5_9
          case yx5_9 => (intro w' hSw; (try dsimp only at hSw); go_simp; try with_reducible rfl)
          try simp only [Act.put, List.setIfInBounds_toArray, List.set_cons_zero, List.set_cons_succ, List.getElem_toArray, List.getElem_cons_succ, List.getElem_cons_zero]
          refine takeW 10 (v := ?vx5_10) rfl (by kernel_rfl) (fun _ _ _ h => h) (by rfl) (by assumption) ?yx5_10 ?rx5_10
          case yx5_10 => (intro w' hSw; (try dsimp only at hSw); go_simp; try with_reducible rfl)
          try simp only [Act.put, List.setIfInBounds_toArray, List.set_cons_zero, List.set_cons_succ, List.getElem_toArray, List.getElem_cons_succ, List.getElem_cons_zero]
          refine takeW 11 (v := ?vx5_11) rfl (by kernel_rfl) (fun _ _ _ h => h) (by rfl) (by assumption) ?yx5_11 ?rx5_11
          case yx5_11 => (intro w' hSw; (try dsimp only at hSw); go_simp; try with_reducible rfl)
          try simp only [Act.put, List.setIfInBounds_toArray, List.set_cons_zero, List.set_cons_succ, List.getElem_toArray, List.getElem_cons_succ, List.getElem_cons_zero]
          refine takeW 12 (v := ?vx5_12) rfl (by kernel_rfl) (fun _ _ _ h => h) (by rfl) (by assumption) ?yx5_12 ?rx5_12
          case yx5_12 => (intro w' hSw; (try dsimp only at hSw); go_simp; try with_reducible rfl)
          try simp only [Act.put, List.setIfInBounds_toArray, List.set_cons_zero, List.set_cons_succ, List.getElem_toArray, List.getElem_cons_succ, List.getElem_cons_zero]
          refine takeW 13 (v := ?vx5_13) rfl (by kernel_rfl) (fun _ _ _ h => h) (by rfl) (by assumption) ?yx5_13 ?rx5_13
          case yx5_13 => (intro w' hSw; (try dsimp only at hSw); go_simp; try with_reducible rfl)
          try simp only [Act.put, List.setIfInBounds_toArray, List.set_cons_zero, List.set_cons_succ, List.getElem_toArray, List.getElem_cons_succ, List.getElem_cons_zero]
          refine takeW 14 (v := ?vx5_14) rfl (by kernel_rfl) (fun _ _ _ h => h) (by rfl) (by assumption) ?yx5_14 ?rx5_14
          case yx5_14 => (intro w' hSw; (try dsimp only at hSw); go_simp; try with_reducible rfl)
          try simp only [Act.put, List.setIfInBounds_toArray, List.set_cons_zero, List.set_cons_succ, List.getElem_toArray, List.getElem_cons_succ, List.getElem_cons_zero]
          refine wpAnyH_ready (rs := [15]) (by kernel_rfl) (by simp) ?_
          refine AllReadyH.cons rfl (fun K hK => ?_) AllReadyH.nil
          go_simp
          refine (implSame_r d.op d.n ey.op ey.n d.k ey.k A' Y5 c' y6 V.drew (HK1.out.up HDD.out) (HK2.out.up HDD.out) 0 V.drew.heap.size (HK1.out.up HDD.out) (Nat.le_refl _) (RowsIf.small HSM1.out) h7 h8 HY7.out.1 HY7.out.2 hks1).mono ?_
          rintro e w7 ⟨rfl, hb7⟩
          rw [HSAM.out]
          have HB7 := Lib.hid (show Below V.heap.size V w7 from HDD.out.trans (hb7.mono HDD.out.size))
          have ON7 := Lib.hid (Only.of_below (g := w2.heap.size) HB7.out)
          have s7 := HS.out _ ON7.out
          have q7 := Row.cell (HRV.out.below HB7.out HRV.out.size) (cells8_at (setT (sameAt ds1 ds2) (ds1.take j)) e8)
          have f7 := Row.free (HRV.out.below HB7.out HRV.out.size) v
          refine hK.out _ _ (s7) (fun hHeldB1 => ?_)
          clear hK K
          try simp only [Act.put, List.setIfInBounds_toArray, List.set_cons_zero, List.set_cons_succ, List.getElem_toArray, List.getElem_cons_succ, List.getElem_cons_zero]
          refine takeW 16 (v := ?vx6_16) rfl (by kernel_rfl) (fun _ _ _ h => h) (by rfl) (by assumption) ?yx6_16 ?rx6_16
          case yx6_16 => (intro w' hSw; (try dsimp only at hSw); go_simp; try with_reducible rfl)
          try simp only [Act.put, List.setIfInBounds_toArray, List.set_cons_zero, List.set_cons_succ, List.getElem_toArray, List.getElem_cons_succ, List.getElem_cons_zero]
          refine takeW 17 (v := ?vx6_17) rfl (by kernel_rfl) (fun _ _ _ h => h) (by rfl) (by assumption) ?yx6_17 ?rx6_17
          case yx6_17 => (intro w' hSw; (try dsimp only at hSw); go_simp; try with_reducible rfl)
          try simp only [Act.put, List.setIfInBounds_toArray, List.set_cons_zero, List.set_cons_succ, List.getElem_toArray, List.getElem_cons_succ, List.getElem_cons_zero]
          refine wpAnyH_ready (rs := [18]) (by kernel_rfl) (by simp) ?_
          refine AllReadyH.cons rfl (fun K hK => ?_) AllReadyH.nil
          go_simp
          have ON9 := Lib.hid (ON7.out.set (p := ⟨w2.heap.size, v, none⟩) (.inl rfl) (.bool t9))
          have sz := HS.out _ ON9.out
          refine hK.out _ _ (sz) (fun hHeldB2 => ?_)
          clear hK K
          try simp only [Act.put, List.setIfInBounds_toArray, List.set_cons_zero, List.set_cons_succ, List.getElem_toArray, List.getElem_cons_succ, List.getElem_cons_zero]
          refine wpAnyH_done (by kernel_rfl) ?_ _
          clear sz s7
          go_wp2_with fail
          go_roundw
          case rel => exact ⟨j + 1, by omega, by go_num, by rw [← HSTEP.out]; exact (HRV.out.below HB7.out HRV.out.size).put v (.bool t9), (HBV.out.trans (HB7.out.mono HBV.out.size)).setCell (p := ⟨w2.heap.size, v, none⟩) (Nat.le_refl _) (.bool t9)⟩
          case measure => simp [intOf]; omega
    · have e9 : j = ds1.length := by omega
      subst e9
      rw [List.take_length] at hr
      have hji : ¬ (ds1.length : Int) < (ds1.length : Int) := by omega
      obtain ⟨T1, hT1⟩ : ∃ T, T = setT (sameAt ds1 ds2) ds1 := ⟨_, rfl⟩
      rw [← hT1] at hr
      have HT1 := Lib.hid hT1
      clear hT1 HM HE HLT
      obtain ⟨w4, hw4⟩ : ∃ x, x = wr := ⟨_, rfl⟩
      rw [← hw4] at hr hb ⊢
      clear hw4
      have HR1 := Lib.hid hr
      have HB4 := Lib.hid (HB2.out.trans (hb.mono HB2.out.size))
      clear hr hb
      obtain ⟨W2, hW2⟩ : ∃ W, W = w4.alloc (Obj.cells #[.bool false, .bool false, .bool false, .bool false, .bool false, .bool false, .bool false, .bool false] 53) := ⟨_, rfl⟩
      have HG := Lib.hid (show Row W2 w4.heap.size 53 (cells8 (setT (keptP ds1 ds2) (ds1.take 0))) by rw [hW2]; exact Row.fresh _ _ _)
      have HBB := Lib.hid (show Below w4.heap.size w4 W2 by rw [hW2]; exact (Below.refl _ _).alloc (Nat.le_refl _) _)
      go_upto_region 12 with fail
      rw [← hW2]
      clear hW2
      go_wp2_with fail
      clear hji
      go_loopw [58] (fun i wr => ∃ (j : Nat), j ≤ ds1.length ∧ i = .int .i64 (j : Int) ∧ Row wr w4.heap.size 53 (cells8 (setT (keptP ds1 ds2) (ds1.take j))) ∧ Below w4.heap.size w4 wr)
        (fun i _ => ds1.length - (intOf i).toNat)
      case atStart => exact ⟨0, by omega, rfl, HG.out, HBB.out⟩
      case round =>
        clear HG HBB
        obtain ⟨wo, hwo⟩ : ∃ wo, wo = wr := ⟨_, rfl⟩
        rw [← hwo] at hrel ⊢
        clear hwo wr
        obtain ⟨wr, hwr⟩ : ∃ wr, wr = wo := ⟨_, rfl⟩
        rw [← hwr] at hrel ⊢
        clear hwr
        obtain ⟨j, hj, rfl, hr, hb⟩ := hrel
        by_cases hlt : j < ds1.length
        · obtain ⟨d, hd⟩ : ∃ d, ds1[j]? = some d := ⟨_, List.getElem?_eq_getElem hlt⟩
          have hdm := List.mem_of_getElem? hd
          have hin := (libOk_named HOK1.out d hdm).1
          obtain ⟨e0, e8⟩ := inVar_nat hin
          obtain ⟨b, o, A', c', rfl, _, hbw, hf, g0, g1, g2, g3, g4, g5, h7, h8, h9⟩ := (HD1.out.below ((HB4.out.trans (hb.mono HB4.out.size)).mono hB1)) j d hd
          obtain ⟨v, hv⟩ : ∃ v, v = d.nm.toNat := ⟨_, rfl⟩
          have hsteps := setT_step (p := keptP ds1 ds2) hd hv (by rw [hv]; exact e8)
          have hks1 : d.k.size ≤ 1048576 := by have := sizeD_at hd; omega
          have hkw := keptW_is (ds2 := ds2) HOK1.out hdm
          have hkp := keptP_at (ds2 := ds2) HOK1.out hdm
          rw [← HT1.out, ← hv] at hkw
          rw [← hv] at e0 e8 hkp
          rw [hkp, hkw] at hsteps
          rw [← e0] at g0
          obtain ⟨zs, hzs⟩ : ∃ zs, zs = fromL ds1 d.op d.n d.k := ⟨_, rfl⟩
          have HFI := Lib.hid (show ∀ x ∈ zs, I64 x by rw [hzs]; exact fun x hx => fromL_small x hx)
          have hzl : zs.length ≤ 8 := by rw [hzs]; exact fromL_len ds1 d.op d.n d.k
          have HFV := Lib.hid (show ∀ x ∈ zs, inVar x = true by rw [hzs]; exact fun x hx => (fromL_names HOK1.out hdm x hx).1)
          rw [← hzs] at hsteps
          have HFL := Lib.hid hzs
          have HKD := Lib.hid (show Lies w L1 B1 A' 0 d.k from by
            obtain ⟨b', o', A2', c2', hX, _, _, _, _, _, _, _, _, k5, _, _, k9⟩ := HD1.out j d hd
            injection hX with hX
            injection hX with hX1 hX2
            have e5 := ((HB4.out.trans (hb.mono HB4.out.size)).cell (p := ⟨b', o' + j * 6 + 5, none⟩) (World.block_lt_of_cell? _ _ k5)).trans k5
            rw [← hX1, ← hX2] at e5
            rw [g5] at e5
            injection e5 with e5
            injection e5 with e5 _ _
            rw [e5]
            exact k9)
          obtain ⟨Y, hY⟩ : ∃ Y, Y = wr.alloc (Obj.cells #[.int .i64 (v : Int), .int .i64 d.ar, .bool d.old, .int .i64 d.op, .int .i64 d.n, .slice A' d.k.len c'] 49) := ⟨_, rfl⟩
          have hbY : Below wr.heap.size wr Y := by rw [hY]; exact (Below.refl _ _).alloc (Nat.le_refl _) _
          have HXD := Lib.hid (show Row Y wr.heap.size 49 #[.int .i64 (v : Int), .int .i64 d.ar, .bool d.old, .int .i64 d.op, .int .i64 d.n, .slice A' d.k.len c'] by rw [hY]; exact Row.fresh _ _ _)
          have HRY := Lib.hid (show Row Y w4.heap.size 53 (cells8 (setT (keptP ds1 ds2) (ds1.take j))) by rw [hY]; exact hr.alloc _)
          have HBY := Lib.hid (hb.trans (hbY.mono hb.size))
          have HGD := Lib.hid (show w4.heap.size < wr.heap.size from hr.size)
          have HR1Y := Lib.hid (HR1.out.below HBY.out HR1.out.size)
          have HG1 := Lib.hid (show w2.heap.size < w4.heap.size from HR1.out.size)
          have hji : (j : Int) < (ds1.length : Int) := by omega
          have HHS := Lib.hid hsteps
          clear hd hdm hin e0 hv hf h9 hr hb hbY hsteps hkw hkp hzs
          go_upto_region 15 with fail
          rw [← hY]
          clear hY g0 g1 g2 g3 g4 g5
          obtain ⟨t, ht⟩ : ∃ t, t = T1 v := ⟨_, rfl⟩
          rw [← ht] at HHS
          have HTV := Lib.hid ht
          have HS := Lib.hid (show ∀ w' : World, Only w4.heap.size Y.heap.size Y w' → w'.cell? ⟨wr.heap.size, 0, none⟩ = some (.int .i64 (v : Int)) ∧ w'.cell? ⟨wr.heap.size, 1, none⟩ = some (.int .i64 d.ar) ∧ w'.cell? ⟨wr.heap.size, 2, none⟩ = some (.bool d.old) ∧ w'.cell? ⟨wr.heap.size, 3, none⟩ = some (.int .i64 d.op) ∧ w'.cell? ⟨wr.heap.size, 4, none⟩ = some (.int .i64 d.n) ∧ w'.cell? ⟨wr.heap.size, 5, none⟩ = some (.slice A' d.k.len c') ∧ w'.cell? ⟨w2.heap.size, 0, none⟩ = some (Value.bool (T1 0)) ∧ w'.cell? ⟨w2.heap.size, 1, none⟩ = some (Value.bool (T1 1)) ∧ w'.cell? ⟨w2.heap.size, 2, none⟩ = some (Value.bool (T1 2)) ∧ w'.cell? ⟨w2.heap.size, 3, none⟩ = some (Value.bool (T1 3)) ∧ w'.cell? ⟨w2.heap.size, 4, none⟩ = some (Value.bool (T1 4)) ∧ w'.cell? ⟨w2.heap.size, 5, none⟩ = some (Value.bool (T1 5)) ∧ w'.cell? ⟨w2.heap.size, 6, none⟩ = some (Value.bool (T1 6)) ∧ w'.cell? ⟨w2.heap.size, 7, none⟩ = some (Value.bool (T1 7)) ∧ w'.cell? ⟨w2.heap.size, v, none⟩ = some (Value.bool t) from fun w' ho => ⟨(ho.cell (p := ⟨wr.heap.size, 0, none⟩) HXD.out.size (Nat.ne_of_gt HGD.out)).trans (HXD.out.cell (i := 0) rfl), (ho.cell (p := ⟨wr.heap.size, 1, none⟩) HXD.out.size (Nat.ne_of_gt HGD.out)).trans (HXD.out.cell (i := 1) rfl), (ho.cell (p := ⟨wr.heap.size, 2, none⟩) HXD.out.size (Nat.ne_of_gt HGD.out)).trans (HXD.out.cell (i := 2) rfl), (ho.cell (p := ⟨wr.heap.size, 3, none⟩) HXD.out.size (Nat.ne_of_gt HGD.out)).trans (HXD.out.cell (i := 3) rfl), (ho.cell (p := ⟨wr.heap.size, 4, none⟩) HXD.out.size (Nat.ne_of_gt HGD.out)).trans (HXD.out.cell (i := 4) rfl), (ho.cell (p := ⟨wr.heap.size, 5, none⟩) HXD.out.size (Nat.ne_of_gt HGD.out)).trans (HXD.out.cell (i := 5) rfl), (ho.cell (p := ⟨w2.heap.size, 0, none⟩) (Nat.lt_of_lt_of_le HG1.out HBY.out.size) (Nat.ne_of_lt HG1.out)).trans (HR1Y.out.cell (i := 0) rfl), (ho.cell (p := ⟨w2.heap.size, 1, none⟩) (Nat.lt_of_lt_of_le HG1.out HBY.out.size) (Nat.ne_of_lt HG1.out)).trans (HR1Y.out.cell (i := 1) rfl), (ho.cell (p := ⟨w2.heap.size, 2, none⟩) (Nat.lt_of_lt_of_le HG1.out HBY.out.size) (Nat.ne_of_lt HG1.out)).trans (HR1Y.out.cell (i := 2) rfl), (ho.cell (p := ⟨w2.heap.size, 3, none⟩) (Nat.lt_of_lt_of_le HG1.out HBY.out.size) (Nat.ne_of_lt HG1.out)).trans (HR1Y.out.cell (i := 3) rfl), (ho.cell (p := ⟨w2.heap.size, 4, none⟩) (Nat.lt_of_lt_of_le HG1.out HBY.out.size) (Nat.ne_of_lt HG1.out)).trans (HR1Y.out.cell (i := 4) rfl), (ho.cell (p := ⟨w2.heap.size, 5, none⟩) (Nat.lt_of_lt_of_le HG1.out HBY.out.size) (Nat.ne_of_lt HG1.out)).trans (HR1Y.out.cell (i := 5) rfl), (ho.cell (p := ⟨w2.heap.size, 6, none⟩) (Nat.lt_of_lt_of_le HG1.out HBY.out.size) (Nat.ne_of_lt HG1.out)).trans (HR1Y.out.cell (i := 6) rfl), (ho.cell (p := ⟨w2.heap.size, 7, none⟩) (Nat.lt_of_lt_of_le HG1.out HBY.out.size) (Nat.ne_of_lt HG1.out)).trans (HR1Y.out.cell (i := 7) rfl), (ho.cell (p := ⟨w2.heap.size, v, none⟩) (Nat.lt_of_lt_of_le HG1.out HBY.out.size) (Nat.ne_of_lt HG1.out)).trans (by rw [HTV.out]; exact HR1Y.out.cell (cells8_at T1 e8))⟩)
          have OND := Lib.hid (Only.refl w4.heap.size Y.heap.size Y).drew
          have HDD := Lib.hid (Below.refl Y.heap.size Y).drew
          have HBW := Lib.hid (show Below w.heap.size w Y.drew from HB4.out.trans ((HBY.out.drew).mono HB4.out.size))
          have HBDD := Lib.hid (show Below w4.heap.size w4 Y.drew from HBY.out.drew)
          have HRD := Lib.hid (show Row Y.drew w4.heap.size 53 (cells8 (setT (keptP ds1 ds2) (ds1.take j))) from HRY.out.drew)
          have q9 := Row.cell (HRY.out.drew) (cells8_at (setT (keptP ds1 ds2) (ds1.take j)) e8)
          have f9 := Row.free (HRY.out.drew) v
          have hv8 : (v : Int) < 8 := by omega
          clear ht
          cases t with
          | false =>
            have HSTEP := Lib.hid (show (cells8 (setT (keptP ds1 ds2) (ds1.take j))).setIfInBounds v (.bool false) = cells8 (setT (keptP ds1 ds2) (ds1.take (j + 1))) from HHS.out)
            have s0 := HS.out _ OND.out
            clear HHS
            refine wp_region_held_drew (S := fun w' => w'.cell? ⟨wr.heap.size, 0, none⟩ = some (.int .i64 (v : Int)) ∧ w'.cell? ⟨wr.heap.size, 1, none⟩ = some (.int .i64 d.ar) ∧ w'.cell? ⟨wr.heap.size, 2, none⟩ = some (.bool d.old) ∧ w'.cell? ⟨wr.heap.size, 3, none⟩ = some (.int .i64 d.op) ∧ w'.cell? ⟨wr.heap.size, 4, none⟩ = some (.int .i64 d.n) ∧ w'.cell? ⟨wr.heap.size, 5, none⟩ = some (.slice A' d.k.len c') ∧ w'.cell? ⟨w2.heap.size, 0, none⟩ = some (Value.bool (T1 0)) ∧ w'.cell? ⟨w2.heap.size, 1, none⟩ = some (Value.bool (T1 1)) ∧ w'.cell? ⟨w2.heap.size, 2, none⟩ = some (Value.bool (T1 2)) ∧ w'.cell? ⟨w2.heap.size, 3, none⟩ = some (Value.bool (T1 3)) ∧ w'.cell? ⟨w2.heap.size, 4, none⟩ = some (Value.bool (T1 4)) ∧ w'.cell? ⟨w2.heap.size, 5, none⟩ = some (Value.bool (T1 5)) ∧ w'.cell? ⟨w2.heap.size, 6, none⟩ = some (Value.bool (T1 6)) ∧ w'.cell? ⟨w2.heap.size, 7, none⟩ = some (Value.bool (T1 7)) ∧ w'.cell? ⟨w2.heap.size, v, none⟩ = some (Value.bool false)) (by kernel_rfl) s0 (fun hHeld => ?_)
            refine takeW 0 (v := ?vx8_0) rfl (by kernel_rfl) (fun _ _ _ h => h) (by rfl) (by assumption) ?yx8_0 ?rx8_0
            case yx8_0 => (intro w' hSw; (try dsimp only at hSw); go_simp; try with_reducible rfl)
            try simp only [Act.put, List.setIfInBounds_toArray, List.set_cons_zero, List.set_cons_succ, List.getElem_toArray, List.getElem_cons_zero]
            refine takeW 1 (v := ?vx8_1) rfl (by kernel_rfl) (fun _ _ _ h => h) (by rfl) (by assumption) ?yx8_1 ?rx8_1
            case yx8_1 => (intro w' hSw; (try dsimp only at hSw); go_simp; try with_reducible rfl)
            try simp only [Act.put, List.setIfInBounds_toArray, List.set_cons_zero, List.set_cons_succ, List.getElem_toArray, List.getElem_cons_succ, List.getElem_cons_zero]
            refine takeW 2 (v := ?vx8_2) rfl (by kernel_rfl) (fun _ _ _ h => h) (by rfl) (by assumption) ?yx8_2 ?rx8_2
            case yx8_2 => (intro w' hSw; (try dsimp only at hSw); go_simp; try with_reducible rfl)
            try simp only [Act.put, List.setIfInBounds_toArray, List.set_cons_zero, List.set_cons_succ, List.getElem_toArray, List.getElem_cons_succ, List.getElem_cons_zero]
            refine takeW 3 (v := ?vx8_3) rfl (by kernel_rfl) (fun _ _ _ h => h) (by rfl) (by assumption) ?yx8_3 ?rx8_3
            case yx8_3 => (intro w' hSw; (try dsimp only at hSw); go_simp; try with_reducible rfl)
            try simp only [Act.put, List.setIfInBounds_toArray, List.set_cons_zero, List.set_cons_succ, List.getElem_toArray, List.getElem_cons_succ, List.getElem_cons_zero]
            refine takeW 4 (v := ?vx8_4) rfl (by kernel_rfl) (fun _ _ _ h => h) (by rfl) (by assumption) ?yx8_4 ?rx8_4
            case yx8_4 => (intro w' hSw; (try dsimp only at hSw); go_simp; try with_reducible rfl)
            try simp only [Act.put, List.setIfInBounds_toArray, List.set_cons_zero, List.set_cons_succ, List.getElem_toArray, List.getElem_cons_succ, List.getElem_cons_zero]
            refine takeW 5 (v := ?vx8_5) rfl (by kernel_rfl) (fun _ _ _ h => h) (by rfl) (by assumption) ?yx8_5 ?rx8_5
            case yx8_5 => (intro w' hSw; (try dsimp only at hSw); go_simp; try with_reducible rfl)
            try simp only [Act.put, List.setIfInBounds_toArray, List.set_cons_zero, List.set_cons_succ, List.getElem_toArray, List.getElem_cons_succ, List.getElem_cons_zero]
            refine takeW 6 (v := ?vx8_6) rfl (by kernel_rfl) (fun _ _ _ h => h) (by rfl) (by assumption) ?yx8_6 ?rx8_6
            case yx8_6 => (intro w' hSw; (try dsimp only at hSw); go_simp; try with_reducible rfl)
            try simp only [Act.put, List.setIfInBounds_toArray, List.set_cons_zero, List.set_cons_succ, List.getElem_toArray, List.getElem_cons_succ, List.getElem_cons_zero]
            refine takeN 7 rfl (by kernel_rfl) (fun _ _ _ h => h) (by rfl) (by assumption) ?rx8_7
            try simp only [Act.put, List.setIfInBounds_toArray, List.set_cons_zero, List.set_cons_succ, List.getElem_toArray, List.getElem_cons_succ, List.getElem_cons_zero]
            refine takeN 8 rfl (by kernel_rfl) (fun _ _ _ h => h) (by rfl) (by assumption) ?rx8_8
            try simp only [Act.put, List.setIfInBounds_toArray, List.set_cons_zero, List.set_cons_succ, List.getElem_toArray, List.getElem_cons_succ, List.getElem_cons_zero]
            refine takeN 9 rfl (by kernel_rfl) (fun _ _ _ h => h) (by rfl) (by assumption) ?rx8_9
            try simp only [Act.put, List.setIfInBounds_toArray, List.set_cons_zero, List.set_cons_succ, List.getElem_toArray, List.getElem_cons_succ, List.getElem_cons_zero]
            refine takeN 10 rfl (by kernel_rfl) (fun _ _ _ h => h) (by rfl) (by assumption) ?rx8_10
            try simp only [Act.put, List.setIfInBounds_toArray, List.set_cons_zero, List.set_cons_succ, List.getElem_toArray, List.getElem_cons_succ, List.getElem_cons_zero]
            refine takeN 11 rfl (by kernel_rfl) (fun _ _ _ h => h) (by rfl) (by assumption) ?rx8_11
            try simp only [Act.put, List.setIfInBounds_toArray, List.set_cons_zero, List.set_cons_succ, List.getElem_toArray, List.getElem_cons_succ, List.getElem_cons_zero]
            refine takeN 12 rfl (by kernel_rfl) (fun _ _ _ h => h) (by rfl) (by assumption) ?rx8_12
            try simp only [Act.put, List.setIfInBounds_toArray, List.set_cons_zero, List.set_cons_succ, List.getElem_toArray, List.getElem_cons_succ, List.getElem_cons_zero]
            refine takeW 13 (v := ?vx8_13) rfl (by kernel_rfl) (fun _ _ _ h => h) (by rfl) (by assumption) ?yx8_13 ?rx8_13
            case yx8_13 => (intro w' hSw; (try dsimp only at hSw); go_simp; try with_reducible rfl)
            try simp only [Act.put, List.setIfInBounds_toArray, List.set_cons_zero, List.set_cons_succ, List.getElem_toArray, List.getElem_cons_succ, List.getElem_cons_zero]
            refine takeW 14 (v := ?vx8_14) rfl (by kernel_rfl) (fun _ _ _ h => h) (by rfl) (by assumption) ?yx8_14 ?rx8_14
            case yx8_14 => (intro w' hSw; (try dsimp only at hSw); go_simp; try with_reducible rfl)
            try simp only [Act.put, List.setIfInBounds_toArray, List.set_cons_zero, List.set_cons_succ, List.getElem_toArray, List.getElem_cons_succ, List.getElem_cons_zero]
            refine wpAnyH_ready (rs := [15]) (by kernel_rfl) (by simp) ?_
            refine AllReadyH.cons rfl (fun K hK => ?_) AllReadyH.nil
            go_simp
            have ON9 := Lib.hid (OND.out.set (p := ⟨w4.heap.size, v, none⟩) (.inl rfl) (.bool false))
            have sz := HS.out _ ON9.out
            refine hK.out _ _ (sz) (fun hHeldB1 => ?_)
            clear hK K
            try simp only [Act.put, List.setIfInBounds_toArray, List.set_cons_zero, List.set_cons_succ, List.getElem_toArray, List.getElem_cons_succ, List.getElem_cons_zero]
            refine wpAnyH_done (by kernel_rfl) ?_ _
            clear sz
            go_wp2_with fail
            go_roundw
            case rel => exact ⟨j + 1, by omega, by go_num, by rw [← HSTEP.out]; exact HRD.out.put v (.bool false), HBDD.out.setCell (p := ⟨w4.heap.size, v, none⟩) (Nat.le_refl _) (.bool false)⟩
            case measure => simp [intOf]; omega
          | true =>
            obtain ⟨z, hz⟩ : ∃ z, allT T1 zs = z := ⟨_, rfl⟩
            have HAT := Lib.hid hz
            have HSTEP := Lib.hid (show (cells8 (setT (keptP ds1 ds2) (ds1.take j))).setIfInBounds v (.bool z) = cells8 (setT (keptP ds1 ds2) (ds1.take (j + 1))) by have := HHS.out; rw [hz, Bool.true_and] at this; exact this)
            have s0 := HS.out _ OND.out
            clear HHS hz
            refine wp_region_held_drew (S := fun w' => w'.cell? ⟨wr.heap.size, 0, none⟩ = some (.int .i64 (v : Int)) ∧ w'.cell? ⟨wr.heap.size, 1, none⟩ = some (.int .i64 d.ar) ∧ w'.cell? ⟨wr.heap.size, 2, none⟩ = some (.bool d.old) ∧ w'.cell? ⟨wr.heap.size, 3, none⟩ = some (.int .i64 d.op) ∧ w'.cell? ⟨wr.heap.size, 4, none⟩ = some (.int .i64 d.n) ∧ w'.cell? ⟨wr.heap.size, 5, none⟩ = some (.slice A' d.k.len c') ∧ w'.cell? ⟨w2.heap.size, 0, none⟩ = some (Value.bool (T1 0)) ∧ w'.cell? ⟨w2.heap.size, 1, none⟩ = some (Value.bool (T1 1)) ∧ w'.cell? ⟨w2.heap.size, 2, none⟩ = some (Value.bool (T1 2)) ∧ w'.cell? ⟨w2.heap.size, 3, none⟩ = some (Value.bool (T1 3)) ∧ w'.cell? ⟨w2.heap.size, 4, none⟩ = some (Value.bool (T1 4)) ∧ w'.cell? ⟨w2.heap.size, 5, none⟩ = some (Value.bool (T1 5)) ∧ w'.cell? ⟨w2.heap.size, 6, none⟩ = some (Value.bool (T1 6)) ∧ w'.cell? ⟨w2.heap.size, 7, none⟩ = some (Value.bool (T1 7)) ∧ w'.cell? ⟨w2.heap.size, v, none⟩ = some (Value.bool true)) (by kernel_rfl) s0 (fun hHeld => ?_)
            refine takeW 0 (v := ?vx10_0) rfl (by kernel_rfl) (fun _ _ _ h => h) (by rfl) (by assumption) ?yx10_0 ?rx10_0
            case yx10_0 => (intro w' hSw; (try dsimp only at hSw); go_simp; try with_reducible rfl)
            try simp only [Act.put, List.setIfInBounds_toArray, List.set_cons_zero, List.set_cons_succ, List.getElem_toArray, List.getElem_cons_zero]
            refine takeW 1 (v := ?vx10_1) rfl (by kernel_rfl) (fun _ _ _ h => h) (by rfl) (by assumption) ?yx10_1 ?rx10_1
            case yx10_1 => (intro w' hSw; (try dsimp only at hSw); go_simp; try with_reducible rfl)
            try simp only [Act.put, List.setIfInBounds_toArray, List.set_cons_zero, List.set_cons_succ, List.getElem_toArray, List.getElem_cons_succ, List.getElem_cons_zero]
            refine takeW 2 (v := ?vx10_2) rfl (by kernel_rfl) (fun _ _ _ h => h) (by rfl) (by assumption) ?yx10_2 ?rx10_2
            case yx10_2 => (intro w' hSw; (try dsimp only at hSw); go_simp; try with_reducible rfl)
            try simp only [Act.put, List.setIfInBounds_toArray, List.set_cons_zero, List.set_cons_succ, List.getElem_toArray, List.getElem_cons_succ, List.getElem_cons_zero]
            refine takeW 3 (v := ?vx10_3) rfl (by kernel_rfl) (fun _ _ _ h => h) (by rfl) (by assumption) ?yx10_3 ?rx10_3
            case yx10_3 => (intro w' hSw; (try dsimp only at hSw); go_simp; try with_reducible rfl)
            try simp only [Act.put, List.setIfInBounds_toArray, List.set_cons_zero, List.set_cons_succ, List.getElem_toArray, List.getElem_cons_succ, List.getElem_cons_zero]
            refine takeW 4 (v := ?vx10_4) rfl (by kernel_rfl) (fun _ _ _ h => h) (by rfl) (by assumption) ?yx10_4 ?rx10_4
            case yx10_4 => (intro w' hSw; (try dsimp only at hSw); go_simp; try with_reducible rfl)
            try simp only [Act.put, List.setIfInBounds_toArray, List.set_cons_zero, List.set_cons_succ, List.getElem_toArray, List.getElem_cons_succ, List.getElem_cons_zero]
            refine takeW 5 (v := ?vx10_5) rfl (by kernel_rfl) (fun _ _ _ h => h) (by rfl) (by assumption) ?yx10_5 ?rx10_5
            case yx10_5 => (intro w' hSw; (try dsimp only at hSw); go_simp; try with_reducible rfl)
            try simp only [Act.put, List.setIfInBounds_toArray, List.set_cons_zero, List.set_cons_succ, List.getElem_toArray, List.getElem_cons_succ, List.getElem_cons_zero]
            refine takeW 6 (v := ?vx10_6) rfl (by kernel_rfl) (fun _ _ _ h => h) (by rfl) (by assumption) ?yx10_6 ?rx10_6
            case yx10_6 => (intro w' hSw; (try dsimp only at hSw); go_simp; try with_reducible rfl)
            try simp only [Act.put, List.setIfInBounds_toArray, List.set_cons_zero, List.set_cons_succ, List.getElem_toArray, List.getElem_cons_succ, List.getElem_cons_zero]
            refine takeW 7 (v := ?vx10_7) rfl (by kernel_rfl) (fun _ _ _ h => h) (by rfl) (by assumption) ?yx10_7 ?rx10_7
            case yx10_7 => (intro w' hSw; (try dsimp only at hSw); go_simp; try with_reducible rfl)
            try simp only [Act.put, List.setIfInBounds_toArray, List.set_cons_zero, List.set_cons_succ, List.getElem_toArray, List.getElem_cons_succ, List.getElem_cons_zero]
            refine takeW 8 (v := ?vx10_8) rfl (by kernel_rfl) (fun _ _ _ h => h) (by rfl) (by assumption) ?yx10_8 ?rx10_8
            case yx10_8 => (intro w' hSw; (try dsimp only at hSw); go_simp; try with_reducible rfl)
            try simp only [Act.put, List.setIfInBounds_toArray, List.set_cons_zero, List.set_cons_succ, List.getElem_toArray, List.getElem_cons_succ, List.getElem_cons_zero]
            refine takeW 9 (v := ?vx10_9) rfl (by kernel_rfl) (fun _ _ _ h => h) (by rfl) (by assumption) ?yx10_9 ?rx10_9
            case yx10_9 => (intro w' hSw; (try dsimp only at hSw); go_simp; try with_reducible rfl)
            try simp only [Act.put, List.setIfInBounds_toArray, List.set_cons_zero, List.set_cons_succ, List.getElem_toArray, List.getElem_cons_succ, List.getElem_cons_zero]
            refine takeW 10 (v := ?vx10_10) rfl (by kernel_rfl) (fun _ _ _ h => h) (by rfl) (by assumption) ?yx10_10 ?rx10_10
            case yx10_10 => (intro w' hSw; (try dsimp only at hSw); go_simp; try with_reducible rfl)
            try simp only [Act.put, List.setIfInBounds_toArray, List.set_cons_zero, List.set_cons_succ, List.getElem_toArray, List.getElem_cons_succ, List.getElem_cons_zero]
            refine wpAnyH_ready (rs := [11]) (by kernel_rfl) (by simp) ?_
            refine AllReadyH.cons rfl (fun K hK => ?_) AllReadyH.nil
            go_simp
            refine (implFrom_r ds1 (some ⟨b, o, none⟩) c1 d.op d.n d.k A' c' L1 B1 L1 B1 Y.drew (HD1.out.below (HBW.out.mono hB1)) (Nat.le_trans hB1 HBW.out.size) (HKD.out.below (HBW.out.mono hB1)) (Nat.le_trans hB1 HBW.out.size) hz1 h7 h8 hks1).mono ?_
            rintro e w7 ⟨vf, rfl, ho7, hb7⟩
            rw [← HFL.out] at ho7
            obtain ⟨A7, c7, rfl, hI7⟩ := own_ints ho7 HFI.out
            have HB7 := Lib.hid (show Below Y.heap.size Y w7 from HDD.out.trans (hb7.mono HDD.out.size))
            have HI7 := Lib.hid (show LiesI w7 0 w7.heap.size A7 zs from hI7.mono_ (Nat.zero_le _) (Nat.le_refl _))
            have ON7 := Lib.hid (Only.of_below (g := w4.heap.size) HB7.out)
            have s7 := HS.out _ ON7.out
            clear hb7 ho7 hI7
            refine hK.out _ _ (s7) (fun hHeldB1 => ?_)
            clear hK K
            try simp only [Act.put, List.setIfInBounds_toArray, List.set_cons_zero, List.set_cons_succ, List.getElem_toArray, List.getElem_cons_succ, List.getElem_cons_zero]
            refine wpAnyH_ready (rs := [12]) (by kernel_rfl) (by simp) ?_
            refine AllReadyH.cons rfl (fun K hK => ?_) AllReadyH.nil
            go_simp
            refine (hasAll_any T1 zs A7 c7 w7 HI7.out (by omega) HFV.out).mono ?_
            rintro e w8 ⟨rfl, hb8⟩
            rw [HAT.out]
            have HB8 := Lib.hid (HB7.out.trans (hb8.mono HB7.out.size))
            have ON8 := Lib.hid (Only.of_below (g := w4.heap.size) HB8.out)
            have s8 := HS.out _ ON8.out
            have q8 := Row.cell (HRY.out.below HB8.out HRY.out.size) (cells8_at (setT (keptP ds1 ds2) (ds1.take j)) e8)
            have f8 := Row.free (HRY.out.below HB8.out HRY.out.size) v
            clear hb8
            refine hK.out _ _ (s8) (fun hHeldB2 => ?_)
            clear hK K
            try simp only [Act.put, List.setIfInBounds_toArray, List.set_cons_zero, List.set_cons_succ, List.getElem_toArray, List.getElem_cons_succ, List.getElem_cons_zero]
            refine takeW 13 (v := ?vx12_13) rfl (by kernel_rfl) (fun _ _ _ h => h) (by rfl) (by assumption) ?yx12_13 ?rx12_13
            case yx12_13 => (intro w' hSw; (try dsimp only at hSw); go_simp; try with_reducible rfl)
            try simp only [Act.put, List.setIfInBounds_toArray, List.set_cons_zero, List.set_cons_succ, List.getElem_toArray, List.getElem_cons_succ, List.getElem_cons_zero]
            refine takeW 14 (v := ?vx12_14) rfl (by kernel_rfl) (fun _ _ _ h => h) (by rfl) (by assumption) ?yx12_14 ?rx12_14
            case yx12_14 => (intro w' hSw; (try dsimp only at hSw); go_simp; try with_reducible rfl)
            try simp only [Act.put, List.setIfInBounds_toArray, List.set_cons_zero, List.set_cons_succ, List.getElem_toArray, List.getElem_cons_succ, List.getElem_cons_zero]
            refine wpAnyH_ready (rs := [15]) (by kernel_rfl) (by simp) ?_
            refine AllReadyH.cons rfl (fun K hK => ?_) AllReadyH.nil
            go_simp
            have ON9 := Lib.hid (ON8.out.set (p := ⟨w4.heap.size, v, none⟩) (.inl rfl) (.bool z))
            have sz := HS.out _ ON9.out
            refine hK.out _ _ (sz) (fun hHeldB3 => ?_)
            clear hK K
            try simp only [Act.put, List.setIfInBounds_toArray, List.set_cons_zero, List.set_cons_succ, List.getElem_toArray, List.getElem_cons_succ, List.getElem_cons_zero]
            refine wpAnyH_done (by kernel_rfl) ?_ _
            clear sz s7 s8
            go_wp2_with fail
            go_roundw
            case rel => exact ⟨j + 1, by omega, by go_num, by rw [← HSTEP.out]; exact (HRY.out.below HB8.out HRY.out.size).put v (.bool z), (HBY.out.trans (HB8.out.mono HBY.out.size)).setCell (p := ⟨w4.heap.size, v, none⟩) (Nat.le_refl _) (.bool z)⟩
            case measure => simp [intOf]; omega
        · have e9 : j = ds1.length := by omega
          subst e9
          rw [List.take_length] at hr
          have hji : ¬ (ds1.length : Int) < (ds1.length : Int) := by omega
          have HBR := Lib.hid (HB4.out.trans (hb.mono HB4.out.size))
          have HNI := Lib.hid (namesIn_any (setT (keptP ds1 ds2) ds1) ds1 A1 c1 wr ((HD1.out.below (HBR.out.mono hB1)).mono_ (Nat.zero_le _) (Nat.le_trans hB1 HBR.out.size)) hds1 (fun d hd => (libOk_named HOK1.out d hd).1))
          have HL := Lib.hid (keptL_is HOK1.out HOK2.out (T := setT (keptP ds1 ds2) ds1) (fun d hd => by rw [setT_at hd, keptP_at HOK1.out hd]))
          obtain ⟨T2, hT2⟩ : ∃ T, T = setT (keptP ds1 ds2) ds1 := ⟨_, rfl⟩
          rw [← hT2] at hr HNI HL
          unfold cells8 at HNI
          have p0 := hr.cell (i := 0) rfl
          have p1 := hr.cell (i := 1) rfl
          have p2 := hr.cell (i := 2) rfl
          have p3 := hr.cell (i := 3) rfl
          have p4 := hr.cell (i := 4) rfl
          have p5 := hr.cell (i := 5) rfl
          have p6 := hr.cell (i := 6) rfl
          have p7 := hr.cell (i := 7) rfl
          clear hr hb hT2
          go_wp2_with fail
          refine HNI.out.mono ?_
          rintro e w8 ⟨v8, rfl, ho8, hb8⟩
          have HB8 := Lib.hid (HBR.out.trans (hb8.mono HBR.out.size))
          have HO8 := Lib.hid (own_less ho8 HBR.out.size)
          clear ho8 hb8 HNI p0 p1 p2 p3 p4 p5 p6 p7
          go_wp2_with fail
          go_ret
          exact ⟨_, rfl, by rw [← HL.out]; exact HO8.out, HB8.out⟩
end Go.Proofs.YtgmhpfdhkcgbfaaGreat
