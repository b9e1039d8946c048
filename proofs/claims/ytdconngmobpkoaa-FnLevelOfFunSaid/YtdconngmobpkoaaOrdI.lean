/-
  slices.IndexFunc at a list of functions; impl.callGraph.order; impl.OrderOfFuns (made by gen_ord.py).
-/
import Derived.Test.YtdconngmobpkoaaGraI
import Derived.BigRegion
import Derived.Deep.RegionLawGrows
namespace Go.Proofs.Ytdconngmobpkoaa
open Go.RowKit Go.Shelf
set_option maxRecDepth 100000

/-- The place of the first one for which something holds. -/
def pk (p : De → Bool) : List De → Nat
  | [] => 0
  | d :: r => if p d then 0 else pk p r + 1
theorem pk_le (p : De → Bool) : ∀ ds : List De, pk p ds ≤ ds.length
  | [] => Nat.le_refl _
  | d :: r => by have := pk_le p r; simp only [pk, List.length_cons]; split <;> omega
theorem pk_hit {p : De → Bool} {ds : List De} {j : Nat} {d : De} (h : ds[j]? = some d) (hp : pk p ds = j + pk p (ds.drop j)) (hx : p d = true) : pk p ds = j := by
  rw [hp, drop_at h]; simp [pk, hx]
theorem pk_miss {p : De → Bool} {ds : List De} {j : Nat} {d : De} (h : ds[j]? = some d) (hp : pk p ds = j + pk p (ds.drop j)) (hx : p d = false) : pk p ds = j + 1 + pk p (ds.drop (j + 1)) := by
  rw [hp, drop_at h]; simp [pk, hx]; omega
theorem pk_end {p : De → Bool} {ds : List De} {j : Nat} (hj : ds.length ≤ j) (hp : pk p ds = j + pk p (ds.drop j)) : pk p ds = j := by
  rw [hp, List.drop_eq_nil_iff.2 hj]; rfl
def pkI (p : De → Bool) (ds : List De) : Int := if pk p ds < ds.length then (pk p ds : Int) else -1
theorem pkI_yes {p : De → Bool} {ds : List De} {j : Nat} (h : pk p ds = j) (hj : j < ds.length) : (j : Int) = pkI p ds := by unfold pkI; rw [h, if_pos hj]
theorem pkI_no {p : De → Bool} {ds : List De} {j : Nat} (h : pk p ds = j) (hj : ¬ j < ds.length) : (-1 : Int) = pkI p ds := by unfold pkI; rw [h, if_neg hj]
theorem pk_find (p : De → Bool) : ∀ ds : List De, (pk p ds < ds.length → ∃ d, ds[pk p ds]? = some d ∧ ds.find? p = some d) ∧ (¬ pk p ds < ds.length → ds.find? p = none)
  | [] => ⟨fun h => absurd h (Nat.not_lt_zero _), fun _ => rfl⟩
  | d :: r => by
    cases hp : p d with
    | true => exact ⟨fun _ => ⟨d, by simp [pk, hp], by rw [List.find?_cons, hp]⟩, fun h => absurd (by simp [pk, hp]) h⟩
    | false =>
      have ih := pk_find p r
      have e : pk p (d :: r) = pk p r + 1 := by simp [pk, hp]
      rw [e, List.find?_cons, hp]
      refine ⟨fun h => ?_, fun h => ?_⟩
      · obtain ⟨x, h1, h2⟩ := ih.1 (by simp only [List.length_cons] at h; omega)
        exact ⟨x, by simpa using h1, h2⟩
      · exact ih.2 (by simp only [List.length_cons] at h; omega)

set_option maxHeartbeats 1000000 in
theorem indexDef_any (p : De → Bool) (hf : Nat) (hb : Array Value) (ds : List De) (DA : Option Addr) (DC L B : Nat) (w : World) (hl : LiesD w L B DA ds) (hB : B ≤ w.heap.size) (hz : ds.length ≤ 1048576)
    (heg : ∀ args w, (callFunc hf args).run Try.prog w = .ok (.enter hf args) w)
    (hh : ∀ d ∈ ds, ∀ A' c' V, Below w.heap.size w V → Calls Try.prog hf (#[.agg #[Value.int IntKind.i64 d.nm, Value.int IntKind.i64 d.ar, Value.bool d.old, Value.int IntKind.i64 d.op, Value.int IntKind.i64 d.n, Value.slice A' d.k.len c']] ++ hb) V (Gives (.bool (p d)) V)) :
    Calls Try.prog 67 #[.slice DA ds.length DC, .func (.func hf) #[] hb] w fun e w' => e = .returned (.int .i64 (pkI p ds)) ∧ Below w.heap.size w w' := by
  have HD := Lib.hid hl
  clear hl
  go_enter Try.func67, Try.ntmps67
  go_wp2
  go_loopw [8] (fun i wr => ∃ (j : Nat), j ≤ ds.length ∧ i = .int .i64 (j : Int) ∧ Hid (pk p ds = j + pk p (ds.drop j)) ∧ Below w.heap.size w wr)
    (fun i _ => ds.length - (intOf i).toNat)
  case atStart => exact ⟨0, by omega, rfl, Lib.hid (by simp), Below.refl _ _⟩
  case round =>
    obtain ⟨j, hj, rfl, HP, hb1⟩ := hrel
    by_cases hlt : j < ds.length
    · have e1 := List.getElem?_eq_getElem hlt
      have hxm := List.getElem_mem hlt
      generalize ds[j] = d at e1 hxm
      obtain ⟨b, o, A', c', hA, _, hbb, hf', g1, g2, g3, g4, g5, g6, h7, h8, h9⟩ := (HD.out.below (hb1.mono hB)) j d e1
      subst hA
      have HC := Lib.hid (hh d hxm A' c' wr hb1)
      have HB := Lib.hid hb1
      have HE := Lib.hid e1
      clear hb1 e1 hxm h9 hf'
      go_wp2_with fail
      refine HC.out.mono ?_
      rintro e w2 ⟨rfl, hb2⟩
      have HB2 := Lib.hid (HB.out.trans (hb2.mono HB.out.size))
      clear hb2 HC g1 g2 g3 g4 g5 g6
      cases hp : p d with
      | true =>
        have HF := Lib.hid (pk_hit HE.out HP.out hp)
        clear hp
        go_wp2
        go_ret
        exact ⟨ret_int (pkI_yes HF.out hlt), HB2.out⟩
      | false =>
        have HF := Lib.hid (pk_miss HE.out HP.out hp)
        clear hp
        go_wp2
        go_roundw
        case rel => exact ⟨j + 1, hlt, by go_num, HF, HB2.out⟩
        case measure => simp [intOf]; omega
    · have e9 : j = ds.length := by omega
      have HF := Lib.hid (pk_end (by omega) HP.out)
      subst e9
      go_wp2
      go_ret
      exact ⟨ret_int (pkI_no HF.out (by omega)), hb1⟩

/-- Does the next one come now? -/
def readyG (T : Nat → Bool) (G : Nat → Nat → Bool) (d : De) : Bool := !T d.nm.toNat && allT T (numsUpto (G d.nm.toNat) 8)
theorem readyG_is {ds : List De} (h : libOk ds = true) {d : De} (hd : d ∈ ds) (T : Nat → Bool) : readyG T (edge ds) d = readyD T d := by
  have e : edge ds d.nm.toNat = callD d := funext fun g => edge_mem h hd g
  unfold readyG readyD endBel
  rw [e]
theorem bit_all (S T : Nat → Bool) : decide (bits .andNot .u8 (bv S : Int) (bv T : Int) = 0) = allT T (numsUpto S 8) := by
  rw [bit_diff]
  cases h : allT T (numsUpto S 8) with
  | true =>
    have h1 := (allT_iff T S).1 h
    have h2 : bv (fun i => S i && !T i) = 0 := bv_zero.2 fun i hi => by
      cases hs : S i with
      | false => rfl
      | true => rw [h1 i hi hs]; rfl
    rw [h2]; rfl
  | false =>
    refine decide_eq_false fun h2 => ?_
    have h3 := bv_zero.1 (show bv (fun i => S i && !T i) = 0 by omega)
    rw [(allT_iff T S).2 fun c hc hs => by have := h3 c hc; rw [hs] at this; simpa using this] at h
    cases h

set_option maxHeartbeats 1000000 in
theorem order1_any (T : Nat → Bool) (G : Nat → Nat → Bool) (d : De) (A' : Option Addr) (c' : Nat) (pb gb : Nat) (V : World) (hn : inVar d.nm = true) (hp : Row V pb 59 #[.int .u8 (bv T : Int)]) (hg : Row V gb 61 (cellsG G)) :
    Calls Try.prog 66 #[.agg #[Value.int IntKind.i64 d.nm, Value.int IntKind.i64 d.ar, Value.bool d.old, Value.int IntKind.i64 d.op, Value.int IntKind.i64 d.n, Value.slice A' d.k.len c'], .pointer (some ⟨pb, 0, none⟩), .pointer (some ⟨gb, 0, none⟩)] V (Gives (.bool (readyG T G d)) V) := by
  obtain ⟨hb1, hr1⟩ := one_box V 47 #[Value.int IntKind.i64 d.nm, Value.int IntKind.i64 d.ar, Value.bool d.old, Value.int IntKind.i64 d.op, Value.int IntKind.i64 d.n, Value.slice A' d.k.len c']
  obtain ⟨e0, e8⟩ := inVar_nat hn
  have i0 : (0 : Int) ≤ d.nm := by omega
  have i8 : d.nm < 8 := by omega
  have q0 := hr1.cell (i := 0) rfl
  have p0 := (hp.below hb1 hp.size).cell (i := 0) rfl
  have gv := (hg.below hb1 hg.size).cell (cellsG_at G e8)
  have HH := Lib.hid (show ∀ W, Calls Try.prog 64 #[.int .u8 (bv T : Int), .int .i64 d.nm] W fun e w' => e = .returned (.bool (T d.nm.toNat)) ∧ w' = W from fun W => by have h := bitsHas_any T d.nm W; rw [hn, Bool.true_and] at h; exact h)
  have HB := Lib.hid hb1
  have HA := Lib.hid (bit_all (G d.nm.toNat) T)
  clear hb1 hr1 hp hg
  unfold readyG
  cases hT : T d.nm.toNat with
  | true =>
    rw [hT] at HH
    clear hT e0 e8
    go_enter Try.func66, Try.ntmps66
    go_wp2_with fail
    go_quiet ((go_at_call 64; exact Calls.quiet_of_same (HH.out _)))
    have HB2 := Lib.hid (below_drewN HB.out nq)
    clear q0 p0 gv
    go_wp2
    go_ret
    exact ⟨rfl, HB2.out⟩
  | false =>
    rw [hT] at HH
    clear hT
    obtain ⟨q, hq⟩ : ∃ q, q = allT T (numsUpto (G d.nm.toNat) 8) := ⟨_, rfl⟩
    rw [← hq] at HA ⊢
    have ha := HA.out
    clear hq e0 e8 HA
    go_enter Try.func66, Try.ntmps66
    go_wp2_with fail
    go_quiet ((go_at_call 64; exact Calls.quiet_of_same (HH.out _)))
    have HB2 := Lib.hid (below_drewN HB.out nq)
    clear q0 p0 gv
    go_wp2
    go_ret
    exact ⟨ret_bool ha, HB2.out⟩

theorem nxt_pk {ds : List De} (h : libOk ds = true) (out : List Int) : nxt ds out = ds.find? (readyG (inL out) (edge ds)) := by
  unfold nxt
  have key : ∀ l : List De, (∀ d ∈ l, d ∈ ds) → l.find? (readyD (inL out)) = l.find? (readyG (inL out) (edge ds)) := by
    intro l
    induction l with
    | nil => intro _; rfl
    | cons d r ih =>
      intro hm
      rw [List.find?_cons, List.find?_cons, readyG_is h (hm d (List.mem_cons_self ..)), ih fun x hx => hm x (List.mem_cons_of_mem _ hx)]
  exact key ds fun _ h => h

set_option maxHeartbeats 4000000 in
theorem order_any (ds : List De) (DA : Option Addr) (DC L B : Nat) (w : World) (hd : LiesD w L B DA ds) (hB : B ≤ w.heap.size) (hdz : sizeD ds ≤ 1048576) (hok : libOk ds = true) :
    Calls Try.prog 41 #[.agg (cellsG (edge ds)), .slice DA ds.length DC] w (ListPost (orderL ds) w) := by
  have hds := Nat.le_trans (sizeD_len ds) hdz
  obtain ⟨hb1, hr1, hr2⟩ := two_boxes w 61 59 (cellsG (edge ds)) #[.int .u8 (0 : Int)]
  have HB1 := Lib.hid hb1
  have HR1 := Lib.hid hr1
  have HR2 := Lib.hid hr2
  have HD := Lib.hid hd
  have HOK := Lib.hid hok
  have HLB := Lib.hid (libOk_len hok)
  clear hb1 hr1 hr2 hd hok
  go_enter Try.func41, Try.ntmps41
  unfold cellsG
  go_wp2_with fail
  go_loopg [5] ds.length (fun gk v wr => ∃ out, OrdI ds out ∧ gk + out.length = ds.length ∧ wr.ownsRow (w.heap.size + 2) 3 1 v out.length (out.map (Value.int .i64)) ∧ Row wr w.heap.size 61 (cellsG (edge ds)) ∧ Row wr (w.heap.size + 1) 59 #[.int .u8 (bv (inL out) : Int)] ∧ Below w.heap.size w wr ∧ w.heap.size + 2 ≤ wr.heap.size)
  case atStart => exact ⟨[], .nil, by simp, World.ownsRow_nil _ _ _ _, HR1.out, HR2.out, HB1.out, by simp⟩
  case round =>
    clear HB1 HR1 HR2
    obtain ⟨out, hoi, hgk, hown, hra, hrb, hb, hzz⟩ := hrel
    have HX := Lib.hid (indexDef_any (readyG (inL out) (edge ds)) 66 #[.pointer (some ⟨w.heap.size + 1, 0, none⟩), .pointer (some ⟨w.heap.size, 0, none⟩)] ds DA DC L B wr (HD.out.below (hb.mono hB)) (Nat.le_trans hB hb.size) hds (enters_of Try.func66 (by kernel_rfl) rfl)
      (fun d hd A' c' V hV => order1_any (inL out) (edge ds) d A' c' (w.heap.size + 1) w.heap.size V (libOk_named HOK.out d hd).1 (hrb.below hV hrb.size) (hra.below hV hra.size)))
    have HOI := Lib.hid hoi
    have HGK := Lib.hid hgk
    have HOW := Lib.hid hown
    have HRA := Lib.hid hra
    have HRB := Lib.hid hrb
    have HB := Lib.hid hb
    have HZZ := Lib.hid hzz
    clear hoi hgk hown hra hrb hb hzz
    go_wp2_with fail
    refine HX.out.mono ?_
    rintro e w2 ⟨rfl, hb2⟩
    have HB2 := Lib.hid (HB.out.trans (hb2.mono HB.out.size))
    have HO2 := Lib.hid (own_below HOW.out hb2)
    have HRA2 := Lib.hid (HRA.out.below hb2 HRA.out.size)
    have HRB2 := Lib.hid (HRB.out.below hb2 HRB.out.size)
    have HZ2 := Lib.hid (Nat.le_trans HZZ.out hb2.size)
    clear hb2 HX HB HOW HRA HRB HZZ
    by_cases hp : pk (readyG (inL out) (edge ds)) ds < ds.length
    · obtain ⟨d, hd1, hd2⟩ := (pk_find (readyG (inL out) (edge ds)) ds).1 hp
      have hnx : nxt ds out = some d := by rw [nxt_pk HOK.out]; exact hd2
      have hmore := HOI.out.more hnx
      have hdm : d ∈ ds := List.mem_of_getElem? hd1
      obtain ⟨en, e8⟩ := inVar_nat (libOk_named HOK.out d hdm).1
      have i0 : (0 : Int) ≤ d.nm := by omega
      have i8 : d.nm < 8 := by omega
      have hpi : pkI (readyG (inL out) (edge ds)) ds = ((pk (readyG (inL out) (edge ds)) ds : Nat) : Int) := (pkI_yes rfl hp).symm
      rw [hpi]
      generalize pk (readyG (inL out) (edge ds)) ds = k at hp hd1 hpi ⊢
      obtain ⟨b, o, A', c', hA, _, hbb, hf', g1, g2, g3, g4, g5, g6, h7, h8, h9⟩ := (HD.out.below (HB2.out.mono hB)) k d hd1
      subst hA
      have HNI := Lib.hid (HOI.out.add hnx)
      have hll := HOI.out.len
      have HBB := Lib.hid (World.block_lt_of_cell? _ _ g1)
      have HBL := Lib.hid (show b < w.heap.size from Nat.lt_of_lt_of_le hbb hB)
      have HG1 := Lib.hid g1
      have HIN := Lib.hid (inL_snoc out d.nm)
      have HS := Lib.hid (bit_or (inL out) e8)
      have HEN := Lib.hid en
      have hki : (k : Int) < (ds.length : Int) := by omega
      clear hnx hd2 hd1 hpi hf' g2 g3 g4 g5 g6 h7 h8 h9 hdm hp
      obtain ⟨iT, hiT, hiz0, hiz1, hiz2⟩ := info_parts (show (Try.prog.info? 3).map (fun i => (i.zero, i.size, i.bytes)) = some (some (.int .i64 0), 1, 8) by kernel_rfl)
      have HIT := Lib.hid hiT
      have HIZ0 := Lib.hid hiz0
      have HIZ1 := Lib.hid hiz1
      have HIZ2 := Lib.hid hiz2
      have C1 := Lib.hid (fresh_cells w2 3 #[Value.int .i64 d.nm])
      have HC2 := Lib.hid (show ∀ u ∈ [Value.int .i64 d.nm], u.oneCell' = true by intro u hu; rw [List.mem_singleton.1 hu]; rfl)
      have HC3 := Lib.hid (show (out).length + 1 ≤ maxLen by unfold maxLen; omega)
      have HC4 := Lib.hid (show ((out).length + 1) * 8 ≤ 140737488355328 by omega)
      have HC5 := Lib.hid (show w.heap.size + 2 ≤ (w2.alloc (.cells #[Value.int .i64 d.nm] 3)).heap.size by have := HZ2.out; rw [World.size_alloc]; omega)
      have HOA := Lib.hid (HO2.out.alloc (.cells #[Value.int .i64 d.nm] 3))
      clear hiT hiz0 hiz1 hiz2
      go_wp2_with (at_builtin; refine wpList_append_own_at _ rfl _ _ 24 rfl (w.heap.size + 2) 3 iT _ 1 8 Try.underlying24 HIT.out HIZ0.out HIZ1.out HIZ2.out rfl (by decide) _ _ _ rfl HOA.out ⟨w2.heap.size, 0, none⟩ 1 1 [Value.int .i64 d.nm] rfl rfl C1.out HC2.out HC3.out HC4.out HC5.out ?_; intro v' w' hown5 hgrow5 _ hblk)
      have hb5 : Below w.heap.size w w' := Below.grown (HB2.out.alloc HB2.out.size (.cells #[Value.int .i64 d.nm] 3)) hgrow5 (Nat.le_trans (by omega) HC5.out) (fun g' hg' => by have := own_at_least HO2.out hg'; omega)
      have HO5 := Lib.hid hown5
      have HB5 := Lib.hid hb5
      have hra5 : Row w' w.heap.size 61 (cellsG (edge ds)) := (hgrow5.block _ (HRA2.out.alloc (.cells #[Value.int .i64 d.nm] 3)).size (own_other_row (HO2.out.alloc (.cells #[Value.int .i64 d.nm] 3)) (HRA2.out.alloc (.cells #[Value.int .i64 d.nm] 3)) (by decide))).trans (HRA2.out.alloc (.cells #[Value.int .i64 d.nm] 3))
      have hrb5 : Row w' (w.heap.size + 1) 59 #[.int .u8 (bv (inL out) : Int)] := (hgrow5.block _ (HRB2.out.alloc (.cells #[Value.int .i64 d.nm] 3)).size (own_other_row (HO2.out.alloc (.cells #[Value.int .i64 d.nm] 3)) (HRB2.out.alloc (.cells #[Value.int .i64 d.nm] 3)) (by decide))).trans (HRB2.out.alloc (.cells #[Value.int .i64 d.nm] 3))
      have k5 : w'.cell? ⟨b, o + k * 6, none⟩ = some (Value.int .i64 d.nm) := by
        have h1 := hgrow5.size
        have h2 := HBL.out
        have h3 := HBB.out
        refine (World.cell?_of_block (hgrow5.block b (by rw [World.size_alloc]; exact Nat.lt_succ_of_lt h3) fun hg => ?_)).trans (((Below.refl w2.heap.size w2).alloc (Nat.le_refl _) _).cell (p := ⟨b, o + k * 6, none⟩) h3 |>.trans HG1.out)
        have := own_at_least HO2.out hg.symm
        omega
      have p5 := hrb5.cell (i := 0) rfl
      have f5 := hrb5.free 0
      have HRA5 := Lib.hid hra5
      have HRB5 := Lib.hid hrb5
      have HZ5 := Lib.hid (Nat.le_trans HC5.out hgrow5.size)
      clear hown5 hgrow5 hblk hb5 g1 hra5 hrb5
      go_wp2_with fail
      go_region
      all_goals
        clear p5 f5 k5
        go_wp2
        have h1 := HGK.out
        go_roundg (ds.length - (out.length + 1))
        case measure => omega
        case rel =>
          refine ⟨out ++ [d.nm], HNI.out, by rw [List.length_append, List.length_singleton]; omega, ?_, ?_, ?_, ?_, ?_⟩
          · rw [List.length_append, List.map_append]
            exact ownsRow_setCell_below HO5.out (a := ⟨w.heap.size + 1, 0, none⟩) (by simp) _
          · exact HRA5.out.apart (p := ⟨w.heap.size + 1, 0, none⟩) (by simp) _
          · have h2 := HRB5.out.put 0 (.int .u8 (bv (inL (out ++ [d.nm])) : Int))
            rw [HIN.out, ← HS.out] at h2
            rw [HIN.out, ← HS.out]
            exact h2
          · exact (HB5.out.setCell (p := ⟨w.heap.size + 1, 0, none⟩) (by simp) _).drew
          · have := HZ5.out
            simpa using this
    · have hnx : nxt ds out = none := by rw [nxt_pk HOK.out]; exact (pk_find (readyG (inL out) (edge ds)) ds).2 hp
      have HE := Lib.hid (HOI.out.last hnx)
      have hpi : pkI (readyG (inL out) (edge ds)) ds = -1 := (pkI_no rfl hp).symm
      rw [hpi]
      have HO9 := Lib.hid (own_less HO2.out (show w.heap.size ≤ w.heap.size + 2 by omega))
      clear hnx hpi
      go_wp2_with fail
      go_ret
      exact ⟨_, rfl, by rw [← HE.out]; exact HO9.out, HB2.out⟩

/-- A list of numbers of the call's own, and a Boolean. -/
def ListBPost (zs : List Int) (b : Bool) (w : World) (e : Ending) (w' : World) : Prop := ∃ v, e = .returned (.tuple #[v, .bool b]) ∧ w'.ownsRow w.heap.size 3 1 v zs.length (zs.map (Value.int .i64)) ∧ Below w.heap.size w w'
theorem orderV_no {ds : List De} (h : orderB ds = false) : orderV ds = [] := by unfold orderV; rw [h]; rfl
theorem orderV_yes {ds : List De} (h : orderB ds = true) : orderV ds = orderL ds := by unfold orderV; rw [h]; rfl

set_option maxHeartbeats 1000000 in
theorem implOrder_r (ds : List De) (DA : Option Addr) (DC L B : Nat) (w : World) (hd : LiesD w L B DA ds) (hB : B ≤ w.heap.size) (hdz : sizeD ds ≤ 1048576) :
    Calls Try.prog 19 #[.slice DA ds.length DC] w (ListBPost (orderV ds) (orderB ds) w) := by
  have HV := Lib.hid (implLibValid_r ds DA DC L B w hd hB hdz)
  cases hok : libOk ds with
  | false =>
    have hb0 : orderB ds = false := by unfold orderB; rw [hok]; rfl
    rw [hb0]
    have HZ := Lib.hid (orderV_no hb0)
    rw [hok] at HV
    clear hok hb0
    go_enter Try.func19, Try.ntmps19
    go_wp2_with fail
    refine HV.out.mono ?_
    rintro e w2 ⟨rfl, hb2⟩
    have HPOST := Lib.hid (show ListBPost (orderV ds) false w (.returned (.tuple #[.slice none 0 0, .bool false])) w2 from ⟨_, rfl, by rw [HZ.out]; exact World.ownsRow_nil _ _ _ _, hb2⟩)
    clear hb2 HV HZ
    go_wp2_with fail
    refine bodyPost_ret (v := .tuple #[.slice none 0 0, .bool false]) ?_ rfl HPOST.out
    simp [results, Try.f19, go_sem]
  | true =>
    have HOK := Lib.hid hok
    have HD := Lib.hid hd
    rw [hok] at HV
    have hlen := (orderL_I ds).1.len
    have hl8 := libOk_len hok
    have HB9 := Lib.hid (show orderB ds = decide ((orderL ds).length = ds.length) by unfold orderB; rw [hok]; rfl)
    clear hok hd
    go_enter Try.func19, Try.ntmps19
    go_wp2_with fail
    refine HV.out.mono ?_
    rintro e w2 ⟨rfl, hb2⟩
    have HB2 := Lib.hid hb2
    have HG := Lib.hid (graphOf_any ds DA DC L B w2 (HD.out.below (hb2.mono hB)) (Nat.le_trans hB hb2.size) hdz HOK.out)
    clear hb2 HV
    go_wp2_with fail
    refine HG.out.mono ?_
    rintro e w3 ⟨rfl, hb3⟩
    have HB3 := Lib.hid (HB2.out.trans (hb3.mono HB2.out.size))
    have HO := Lib.hid (order_any ds DA DC L B w3 (HD.out.below (HB3.out.mono hB)) (Nat.le_trans hB HB3.out.size) hdz HOK.out)
    clear hb3 HB2 HG
    go_wp2_with fail
    refine HO.out.mono ?_
    rintro e w4 ⟨v4, rfl, ho4, hb4⟩
    obtain ⟨A4, c4, rfl, hI4⟩ := own_ints ho4 (fun x hx => by have := inVar_true ((orderL_I ds).1.nums HOK.out x hx); unfold I64; omega)
    have HB4 := Lib.hid (HB3.out.trans (hb4.mono HB3.out.size))
    have HO4 := Lib.hid (own_less ho4 HB3.out.size)
    clear hb4 HB3 HO ho4 hI4
    by_cases hlt : (orderL ds).length < ds.length
    · have hb0 : orderB ds = false := by rw [HB9.out]; exact decide_eq_false (by omega)
      have HPOST := Lib.hid (show ListBPost (orderV ds) (orderB ds) w (.returned (.tuple #[.slice none 0 0, .bool false])) w4 from ⟨_, by rw [hb0], by rw [orderV_no hb0]; exact World.ownsRow_nil _ _ _ _, HB4.out⟩)
      have hlti : ((orderL ds).length : Int) < (ds.length : Int) := by omega
      clear hb0 HB4 HO4 HB9 hlt
      go_wp2_with fail
      refine bodyPost_ret (v := .tuple #[.slice none 0 0, .bool false]) ?_ rfl HPOST.out
      simp [results, Try.f19, go_sem]
    · have hb1 : orderB ds = true := by rw [HB9.out]; exact decide_eq_true (by omega)
      have HPOST := Lib.hid (show ListBPost (orderV ds) (orderB ds) w (.returned (.tuple #[.slice A4 (orderL ds).length c4, .bool true])) w4 from ⟨_, by rw [hb1], by rw [orderV_yes hb1]; exact HO4.out, HB4.out⟩)
      have hlti : ¬ ((orderL ds).length : Int) < (ds.length : Int) := by omega
      clear hb1 HB4 HO4 HB9 hlt
      go_wp2_with fail
      refine bodyPost_ret (v := .tuple #[.slice A4 (orderL ds).length c4, .bool true]) ?_ rfl HPOST.out
      simp [results, Try.f19, go_sem]
end Go.Proofs.Ytdconngmobpkoaa
