/-
  impl.funBits: has, list; impl.bitsOf; impl.graphOf; impl.callGraph: callersOf; impl.CallersOf (made by gen_gra.py).
-/
import Derived.Test.YtdconngmobpkoaaGraD
import Derived.Test.YtdconngmobpkoaaLibVI
import Derived.Test.YtdconngmobpkoaaCallsM
import Derived.Maps.AppendAt
import Derived.Laws.BitsAllLaws
import Derived.Deep.RegionHeld3
import Derived.Deep.RegionWith
import Derived.Deep.CutRange
namespace Go.Proofs.Ytdconngmobpkoaa
open Go.RowKit Go.Shelf
set_option maxRecDepth 100000

-- the program's sets
theorem bit_has (T : Nat → Bool) {v : Nat} (h : v < 8) : bits .and .u8 ((bv T : Int) / 2 ^ v) 1 = ((T v).toNat : Int) := by
  have e : ((bv T : Nat) : Int) / 2 ^ v = ((bv T / 2 ^ v : Nat) : Int) := by
    rw [Int.natCast_ediv]
    congr 1
  have h1 := bv_lt T
  have h2 : bv T / 2 ^ v ≤ bv T := Nat.div_le_self _ _
  rw [e, show (1 : Int) = ((1 : Nat) : Int) from rfl, u8_and_nat _ _ (by omega) (by decide), bv_has T h]
theorem bit_or (T : Nat → Bool) {v : Nat} (h : v < 8) : bits .or .u8 (bv T : Int) (2 ^ v % 256) = ((bv (fun i => T i || decide (i = v)) : Nat) : Int) := by
  have e : (2 ^ v % 256 : Int) = ((2 ^ v : Nat) : Int) := by
    rcases v with _ | _ | _ | _ | _ | _ | _ | _ | v
    all_goals first | decide | omega
  have h2 : (2 : Nat) ^ v < 256 := by
    have := Nat.pow_lt_pow_right (show 1 < 2 by decide) h
    omega
  rw [e, u8_or_nat _ _ (bv_lt T) h2, bv_or1 T h]
theorem bit_diff (S T : Nat → Bool) : bits .andNot .u8 (bv S : Int) (bv T : Int) = ((bv (fun i => S i && !T i) : Nat) : Int) := by
  rw [u8_andNot_nat _ _ (bv_lt S) (bv_lt T), bv_diff]

theorem bitsHas_any (T : Nat → Bool) (x : Int) (w : World) :
    Calls Try.prog 64 #[.int .u8 (bv T : Int), .int .i64 x] w fun e w' => e = .returned (.bool (inVar x && T x.toNat)) ∧ w' = w := by
  cases hx : inVar x with
  | false =>
    have HQ := Lib.hid (isFun_quiet x false hx w)
    go_enter Try.func64, Try.ntmps64
    go_wp2_with fail
    refine HQ.out.mono ?_
    rintro e w2 ⟨rfl, rfl⟩
    go_wp2
    go_ret
    exact ⟨rfl, rfl⟩
  | true =>
    have HQ := Lib.hid (isFun_quiet x true hx w)
    obtain ⟨e0, e8⟩ := inVar_nat hx
    generalize x.toNat = v at e0 e8 ⊢
    subst e0
    have HH := Lib.hid (bit_has T e8)
    clear hx
    go_enter Try.func64, Try.ntmps64
    go_wp2_with fail
    refine HQ.out.mono ?_
    rintro e w2 ⟨rfl, rfl⟩
    go_wp2
    go_ret
    refine ⟨ret_bool ?_, rfl⟩
    have h1 := HH.out
    cases ht : T v with
    | true => rw [ht] at h1; simpa using h1
    | false => rw [ht] at h1; simp [h1]

set_option maxHeartbeats 1000000 in
theorem bitsOf_any (zs : List Int) (A : Option Addr) (c : Nat) (w : World) (hl : LiesI w 0 w.heap.size A zs) (hz : zs.length ≤ 1048576) (hv : ∀ x ∈ zs, inVar x = true) :
    Calls Try.prog 63 #[.slice A zs.length c] w fun e w' => e = .returned (.int .u8 (bv (inL zs) : Int)) ∧ w' = w := by
  have HL := Lib.hid hl
  have HV := Lib.hid hv
  clear hl hv
  go_enter Try.func63, Try.ntmps63
  go_wp2_with fail
  go_loopw [3, 8] (fun v i wr => ∃ (j : Nat), j ≤ zs.length ∧ i = .int .i64 (j : Int) ∧ v = .int .u8 (bv (inL (zs.take j)) : Int) ∧ wr = w)
    (fun _ i _ => zs.length - (intOf i).toNat)
  case atStart => exact ⟨0, by omega, rfl, rfl, rfl⟩
  case round =>
    obtain ⟨j, hj, rfl, rfl, rfl⟩ := hrel
    by_cases hlt : j < zs.length
    · have e1 := List.getElem?_eq_getElem hlt
      have hxm := List.getElem_mem hlt
      generalize zs[j] = x at e1 hxm
      obtain ⟨b, o, hA, _, hbb, ix, g1⟩ := HL.out j x e1
      subst hA
      obtain ⟨e0, e8⟩ := inVar_nat (HV.out x hxm)
      have hst : inL (zs.take (j + 1)) = fun i => inL (zs.take j) i || decide (i = x.toNat) := by
        rw [List.take_add_one, e1]
        exact inL_snoc _ _
      generalize x.toNat = v at e0 e8 hst
      subst e0
      have HS := Lib.hid (bit_or (inL (zs.take j)) e8)
      rw [← hst] at HS
      clear hst e1 hxm
      go_wp2
      go_roundw
      case rel =>
        refine ⟨j + 1, hlt, by go_num, ?_, trivial⟩
        rw [← HS.out]
      case measure => simp [intOf]; omega
    · have e9 : j = zs.length := by omega
      subst e9
      have HE := Lib.hid (show zs.take zs.length = zs from List.take_length)
      go_wp2
      go_ret
      exact ⟨by first | rfl | (rw [HE.out]; rfl), rfl⟩
theorem bv_nums (S : Nat → Bool) : bv (inL (numsUpto S 8)) = bv S := by
  refine bv_congr fun i hi => ?_
  cases h : S i with
  | true => exact List.any_eq_true.2 ⟨(i : Int), (nums_iff S 8 _).2 ⟨i, hi, rfl, h⟩, decide_eq_true (by omega)⟩
  | false =>
    cases hn : inL (numsUpto S 8) i with
    | false => rfl
    | true =>
      obtain ⟨x, hx, e⟩ := List.any_eq_true.1 hn
      obtain ⟨v, _, rfl, hv⟩ := (nums_iff S 8 x).1 hx
      have e2 : v = i := by have := of_decide_eq_true e; omega
      rw [e2, h] at hv
      cases hv

set_option maxHeartbeats 1000000 in
theorem bitsList_any (S : Nat → Bool) (w : World) :
    Calls Try.prog 38 #[.int .u8 (bv S : Int)] w (ListPost (numsUpto S 8) w) := by
  go_enter Try.func38, Try.ntmps38
  go_wp2_with fail
  go_loopw [3, 5] (fun v i wr => ∃ (j : Nat), j ≤ 8 ∧ i = .int .i64 j ∧ wr.ownsRow w.heap.size 3 1 v (numsUpto S j).length ((numsUpto S j).map (Value.int .i64)) ∧ Below w.heap.size w wr)
    (fun _ i _ => 8 - (intOf i).toNat)
  case atStart => exact ⟨0, by omega, rfl, World.ownsRow_nil _ _ _ _, Below.refl _ _⟩
  case round =>
    obtain ⟨j, hj, rfl, hown, hb3⟩ := hrel
    by_cases hlt : j < 8
    · have HO2 := Lib.hid hown
      have HB2 := Lib.hid hb3
      have hlen := numsUpto_len S j
      have hH := bitsHas_any S (j : Int) wr
      rw [inVar_mk (by omega) (by omega), Bool.true_and, Int.toNat_natCast] at hH
      have HH := Lib.hid hH
      clear hown hb3 hH
      go_wp2_with fail
      refine HH.out.mono ?_
      rintro e w2 ⟨rfl, rfl⟩
      cases hc : S j with
      | false =>
        have HF := Lib.hid (numsUpto_no hc)
        clear hc
        go_wp2_with fail
        go_roundw
        case rel => exact ⟨j + 1, hlt, by go_num, by rw [HF.out]; exact HO2.out, HB2.out⟩
        case measure => simp [intOf]; omega
      | true =>
        have HF := Lib.hid (numsUpto_yes hc)
        clear hc
        obtain ⟨iT, hiT, hiz0, hiz1, hiz2⟩ := info_parts (show (Try.prog.info? 3).map (fun i => (i.zero, i.size, i.bytes)) = some (some (.int .i64 0), 1, 8) by kernel_rfl)
        have HIT := Lib.hid hiT
        have HIZ0 := Lib.hid hiz0
        have HIZ1 := Lib.hid hiz1
        have HIZ2 := Lib.hid hiz2
        have C1 := Lib.hid (fresh_cells w2 3 #[Value.int .i64 (j : Int)])
        have HC2 := Lib.hid (show ∀ u ∈ [Value.int .i64 (j : Int)], u.oneCell' = true by intro u hu; rw [List.mem_singleton.1 hu]; rfl)
        have HC3 := Lib.hid (show (numsUpto S j).length + 1 ≤ maxLen by unfold maxLen; omega)
        have HC4 := Lib.hid (show ((numsUpto S j).length + 1) * 8 ≤ 140737488355328 by omega)
        have HC5 := Lib.hid (show w.heap.size ≤ (w2.alloc (.cells #[Value.int .i64 (j : Int)] 3)).heap.size by have := HB2.out.size; rw [World.size_alloc]; omega)
        have HOA := Lib.hid (HO2.out.alloc (.cells #[Value.int .i64 (j : Int)] 3))
        clear hiT hiz0 hiz1 hiz2
        go_wp2_with (at_builtin; refine wpList_append_own_at _ rfl _ _ 24 rfl (w.heap.size) 3 iT _ 1 8 Try.underlying24 HIT.out HIZ0.out HIZ1.out HIZ2.out rfl (by decide) _ _ _ rfl HOA.out ⟨w2.heap.size, 0, none⟩ 1 1 [Value.int .i64 (j : Int)] rfl rfl C1.out HC2.out HC3.out HC4.out HC5.out ?_; intro v' w' hown5 hgrow5 _ hblk)
        have hb5 : Below w.heap.size w w' := Below.grown (HB2.out.alloc HB2.out.size (.cells #[Value.int .i64 (j : Int)] 3)) hgrow5 (Nat.le_trans (by omega) HC5.out) (fun g' hg' => by have := own_at_least HO2.out hg'; omega)
        have HO5 := Lib.hid hown5
        have HB5 := Lib.hid hb5
        clear hown5 hgrow5 hblk hb5
        go_wp2_with fail
        go_roundw
        case rel =>
          refine ⟨j + 1, hlt, by go_num, ?_, HB5.out⟩
          rw [HF.out, List.length_append, List.map_append]
          exact HO5.out
        case measure => simp [intOf]; omega
    · have e9 : j = 8 := by omega
      subst e9
      go_wp2
      go_ret
      exact ⟨_, rfl, hown, hb3⟩

-- the program's graph
def cellsG (G : Nat → Nat → Bool) : Array Value := #[.int .u8 (bv (G 0) : Int), .int .u8 (bv (G 1) : Int), .int .u8 (bv (G 2) : Int), .int .u8 (bv (G 3) : Int), .int .u8 (bv (G 4) : Int), .int .u8 (bv (G 5) : Int), .int .u8 (bv (G 6) : Int), .int .u8 (bv (G 7) : Int)]
theorem cellsG_at (G : Nat → Nat → Bool) {i : Nat} (h : i < 8) : (cellsG G)[i]? = some (.int .u8 (bv (G i) : Int)) := by
  rcases i with _ | _ | _ | _ | _ | _ | _ | _ | i
  all_goals first | rfl | omega
theorem cellsG_put (G : Nat → Nat → Bool) (S : Nat → Bool) {v : Nat} (h : v < 8) : (cellsG G).setIfInBounds v (.int .u8 (bv S : Int)) = cellsG (fun f => if f = v then S else G f) := by
  rcases v with _ | _ | _ | _ | _ | _ | _ | _ | v
  all_goals first | rfl | omega
theorem cellsG_congr {G H : Nat → Nat → Bool} (h : ∀ f, f < 8 → ∀ i, i < 8 → G f i = H f i) : cellsG G = cellsG H := by
  unfold cellsG
  rw [bv_congr (h 0 (by decide)), bv_congr (h 1 (by decide)), bv_congr (h 2 (by decide)), bv_congr (h 3 (by decide)), bv_congr (h 4 (by decide)), bv_congr (h 5 (by decide)), bv_congr (h 6 (by decide)), bv_congr (h 7 (by decide))]
/-- What the functions among the first ones call. -/
def gra (l : List De) (f : Nat) : Nat → Bool := match fnd (f : Int) l with | some d => callD d | none => fun _ => false
theorem gra_is (ds : List De) (f : Nat) : gra ds f = edge ds f := by
  funext g
  unfold gra edge
  cases fnd (f : Int) ds <;> rfl
theorem gra_step {ds : List De} (h : libOk ds = true) {j : Nat} {d : De} (hd : ds[j]? = some d) (f : Nat) : gra (ds.take (j + 1)) f = if f = d.nm.toNat then callD d else gra (ds.take j) f := by
  have hm := List.mem_of_getElem? hd
  obtain ⟨e0, e8⟩ := inVar_nat (libOk_named h d hm).1
  unfold gra
  rw [fnd_take hd]
  by_cases e : f = d.nm.toNat
  · subst e
    rw [if_pos rfl, e0, if_pos rfl]
    cases hf : fnd d.nm (ds.take j) with
    | none => rfl
    | some d2 =>
      have h3 : fnd d.nm ds = some d2 := by
        have h4 := List.take_append_drop j ds
        unfold fnd at hf ⊢
        rw [← h4, List.find?_append, hf]
        rfl
      rw [(libOk_named h d hm).2] at h3
      injection h3 with h3
      subst h3
      rfl
  · rw [if_neg e, if_neg (show ¬ d.nm = (f : Int) by omega)]
    cases fnd (f : Int) (ds.take j) <;> rfl
theorem Row.eightG {w : World} {g : Nat} {t : TypeId} {G : Nat → Nat → Bool} (h : Row w g t (cellsG G)) : w.cell? ⟨g, 0, none⟩ = some (.int .u8 (bv (G 0) : Int)) ∧ w.cell? ⟨g, 1, none⟩ = some (.int .u8 (bv (G 1) : Int)) ∧ w.cell? ⟨g, 2, none⟩ = some (.int .u8 (bv (G 2) : Int)) ∧
    w.cell? ⟨g, 3, none⟩ = some (.int .u8 (bv (G 3) : Int)) ∧ w.cell? ⟨g, 4, none⟩ = some (.int .u8 (bv (G 4) : Int)) ∧ w.cell? ⟨g, 5, none⟩ = some (.int .u8 (bv (G 5) : Int)) ∧ w.cell? ⟨g, 6, none⟩ = some (.int .u8 (bv (G 6) : Int)) ∧ w.cell? ⟨g, 7, none⟩ = some (.int .u8 (bv (G 7) : Int)) :=
  ⟨h.cell (i := 0) rfl, h.cell (i := 1) rfl, h.cell (i := 2) rfl, h.cell (i := 3) rfl, h.cell (i := 4) rfl, h.cell (i := 5) rfl, h.cell (i := 6) rfl, h.cell (i := 7) rfl⟩
def put8G (w : World) (g : Nat) (G : Nat → Nat → Bool) : World :=
  (((((((w.setCell ⟨g, 0, none⟩ (.int .u8 (bv (G 0) : Int))).setCell ⟨g, 1, none⟩ (.int .u8 (bv (G 1) : Int))).setCell ⟨g, 2, none⟩ (.int .u8 (bv (G 2) : Int))).setCell ⟨g, 3, none⟩ (.int .u8 (bv (G 3) : Int))).setCell ⟨g, 4, none⟩ (.int .u8 (bv (G 4) : Int))).setCell ⟨g, 5, none⟩ (.int .u8 (bv (G 5) : Int))).setCell ⟨g, 6, none⟩ (.int .u8 (bv (G 6) : Int))).setCell ⟨g, 7, none⟩ (.int .u8 (bv (G 7) : Int))
theorem put8G_below {B : Nat} {w0 w : World} {g : Nat} {G : Nat → Nat → Bool} (h : Below B w0 w) (hg : B ≤ g) : Below B w0 (put8G w g G) :=
  (((((((h.setCell hg _).setCell hg _).setCell hg _).setCell hg _).setCell hg _).setCell hg _).setCell hg _).setCell hg _
theorem put8G_row {w : World} {g : Nat} {t : TypeId} {F : Nat → Nat → Bool} (G : Nat → Nat → Bool) (h : Row w g t (cellsG F)) : Row (put8G w g G) g t (cellsG G) := by
  have h8 := (((((((h.put 0 (.int .u8 (bv (G 0) : Int))).put 1 (.int .u8 (bv (G 1) : Int))).put 2 (.int .u8 (bv (G 2) : Int))).put 3 (.int .u8 (bv (G 3) : Int))).put 4 (.int .u8 (bv (G 4) : Int))).put 5 (.int .u8 (bv (G 5) : Int))).put 6 (.int .u8 (bv (G 6) : Int))).put 7 (.int .u8 (bv (G 7) : Int))
  have e : ((((((((cellsG F).setIfInBounds 0 (.int .u8 (bv (G 0) : Int))).setIfInBounds 1 (.int .u8 (bv (G 1) : Int))).setIfInBounds 2 (.int .u8 (bv (G 2) : Int))).setIfInBounds 3 (.int .u8 (bv (G 3) : Int))).setIfInBounds 4 (.int .u8 (bv (G 4) : Int))).setIfInBounds 5 (.int .u8 (bv (G 5) : Int))).setIfInBounds 6 (.int .u8 (bv (G 6) : Int))).setIfInBounds 7 (.int .u8 (bv (G 7) : Int)) = cellsG G := by simp [cellsG]
  rw [e] at h8
  exact h8
theorem indexG_run (G : Nat → Nat → Bool) {j : Nat} (h : j < 8) (w : World) : Sem.run Try.prog (Instr.index 61 (.agg (cellsG G)) (.int .i64 (j : Int))) w = .ok (.int .u8 (bv (G j) : Int)) w := by
  rcases j with _ | _ | _ | _ | _ | _ | _ | _ | j
  all_goals first | rfl | omega
set_option maxHeartbeats 2000000 in
theorem graphOf_any (ds : List De) (DA : Option Addr) (DC L B : Nat) (w : World) (hd : LiesD w L B DA ds) (hB : B ≤ w.heap.size) (hdz : sizeD ds ≤ 1048576) (hok : libOk ds = true) :
    Calls Try.prog 36 #[.slice DA ds.length DC] w (Gives (.agg (cellsG (edge ds))) w) := by
  have hds := Nat.le_trans (sizeD_len ds) hdz
  obtain ⟨hb1, hr1, hr2⟩ := two_boxes w 61 61 (cellsG fun _ _ => false) (cellsG fun _ _ => false)
  have HB1 := Lib.hid hb1
  have HR1 := Lib.hid hr1
  have HR2 := Lib.hid hr2
  have HD := Lib.hid hd
  have HOK := Lib.hid hok
  clear hb1 hr1 hr2 hd hok
  go_enter Try.func36, Try.ntmps36
  go_wp2_with fail
  go_loopw [8] (fun i wr => ∃ (j : Nat), j ≤ ds.length ∧ i = .int .i64 (j : Int) ∧ Row wr w.heap.size 61 (cellsG fun _ _ => false) ∧ Row wr (w.heap.size + 1) 61 (cellsG (gra (ds.take j))) ∧ Below w.heap.size w wr)
    (fun i _ => ds.length - (intOf i).toNat)
  case atStart => exact ⟨0, by omega, rfl, HR1.out, HR2.out, HB1.out⟩
  case round =>
    clear HB1 HR1 HR2
    obtain ⟨j, hj, rfl, hra, hrb, hb⟩ := hrel
    by_cases hlt : j < ds.length
    · have e1 := List.getElem?_eq_getElem hlt
      generalize ds[j] = d at e1
      have hdm : d ∈ ds := List.mem_of_getElem? e1
      have hst := gra_step HOK.out e1
      have hsd := sizeD_at e1
      obtain ⟨b, o, A', c', hA, _, hbb, hf', g1, g2, g3, g4, g5, g6, h7, h8, h9⟩ := (HD.out.below (hb.mono hB)) j d e1
      subst hA
      have hsm : smallOk d.k 14 80 = true := libOk_small HOK.out d hdm
      obtain ⟨en, e8⟩ := inVar_nat (libOk_named HOK.out d hdm).1
      have i0 : (0 : Int) ≤ d.nm := by omega
      have i8 : d.nm < 8 := by omega
      have hbd := ((Below.refl wr.heap.size wr).alloc (Nat.le_refl _) (Obj.cells #[Value.int IntKind.i64 d.nm, Value.int IntKind.i64 d.ar, Value.bool d.old, Value.int IntKind.i64 d.op, Value.int IntKind.i64 d.n, Value.slice A' d.k.len c'] 47)).drew
      have hrd : Row (wr.alloc (Obj.cells #[Value.int IntKind.i64 d.nm, Value.int IntKind.i64 d.ar, Value.bool d.old, Value.int IntKind.i64 d.op, Value.int IntKind.i64 d.n, Value.slice A' d.k.len c'] 47)).drew wr.heap.size 47 #[Value.int IntKind.i64 d.nm, Value.int IntKind.i64 d.ar, Value.bool d.old, Value.int IntKind.i64 d.op, Value.int IntKind.i64 d.n, Value.slice A' d.k.len c'] := (Row.fresh _ _ _).drew
      have HC := Lib.hid (implCalls_r d.op d.n d.k A' c' L B ((wr.alloc (Obj.cells #[Value.int IntKind.i64 d.nm, Value.int IntKind.i64 d.ar, Value.bool d.old, Value.int IntKind.i64 d.op, Value.int IntKind.i64 d.n, Value.slice A' d.k.len c'] 47)).drew) (h9.below (hbd.mono (Nat.le_trans hB hb.size))) (Nat.le_trans hB (Nat.le_trans hb.size hbd.size)) (.small hsm) h7 h8 (by omega))
      have HRA := Lib.hid (hra.below hbd hra.size)
      have HRB := Lib.hid (hrb.below hbd hrb.size)
      have HBD := Lib.hid (hb.trans (hbd.mono hb.size))
      have HST := Lib.hid hst
      have HEN := Lib.hid en
      have hSR : ∀ w' : World, Row w' wr.heap.size 47 #[Value.int IntKind.i64 d.nm, Value.int IntKind.i64 d.ar, Value.bool d.old, Value.int IntKind.i64 d.op, Value.int IntKind.i64 d.n, Value.slice A' d.k.len c'] → w'.cell? ⟨wr.heap.size, 0, none⟩ = some (Value.int .i64 d.nm) ∧ w'.cell? ⟨wr.heap.size, 3, none⟩ = some (Value.int .i64 d.op) ∧ w'.cell? ⟨wr.heap.size, 4, none⟩ = some (Value.int .i64 d.n) ∧ w'.cell? ⟨wr.heap.size, 5, none⟩ = some (Value.slice A' d.k.len c') := fun w' h => ⟨h.cell (i := 0) rfl, h.cell (i := 3) rfl, h.cell (i := 4) rfl, h.cell (i := 5) rfl⟩
      have HSR := Lib.hid hSR
      have hS : ∀ w' : World, Below ((wr.alloc (Obj.cells #[Value.int IntKind.i64 d.nm, Value.int IntKind.i64 d.ar, Value.bool d.old, Value.int IntKind.i64 d.op, Value.int IntKind.i64 d.n, Value.slice A' d.k.len c'] 47)).drew).heap.size ((wr.alloc (Obj.cells #[Value.int IntKind.i64 d.nm, Value.int IntKind.i64 d.ar, Value.bool d.old, Value.int IntKind.i64 d.op, Value.int IntKind.i64 d.n, Value.slice A' d.k.len c'] 47)).drew) w' → w'.cell? ⟨wr.heap.size, 0, none⟩ = some (Value.int .i64 d.nm) ∧ w'.cell? ⟨wr.heap.size, 3, none⟩ = some (Value.int .i64 d.op) ∧ w'.cell? ⟨wr.heap.size, 4, none⟩ = some (Value.int .i64 d.n) ∧ w'.cell? ⟨wr.heap.size, 5, none⟩ = some (Value.slice A' d.k.len c') := fun w' hb' => hSR w' (hrd.below hb' hrd.size)
      have s0 := hS _ (Below.refl _ _)
      have HS := Lib.hid hS
      have HRD := Lib.hid hrd
      have HLT := Lib.hid (show w.heap.size + 1 < wr.heap.size from hrb.size)
      clear hst hra hrb hb hbd hrd hS hSR h9 hf' hsd en hsm e1 hdm
      go_upto_region 5 with fail
      clear g1 g2 g3 g4 g5 g6
      go_region_held3 (fun w' => w'.cell? ⟨wr.heap.size, 0, none⟩ = some (Value.int .i64 d.nm) ∧ w'.cell? ⟨wr.heap.size, 3, none⟩ = some (Value.int .i64 d.op) ∧ w'.cell? ⟨wr.heap.size, 4, none⟩ = some (Value.int .i64 d.n) ∧ w'.cell? ⟨wr.heap.size, 5, none⟩ = some (Value.slice A' d.k.len c'))
        (first | with_reducible exact s0 | with_reducible exact s1 | with_reducible exact s2 | fail)
        (first
          | (go_at_call 63
             with_reducible refine HBO.out.mono ?_
             rintro e ve ⟨rfl, rfl⟩
             skip)
          | (go_at_call 26
             with_reducible refine HC.out.mono ?_
             rintro e vd ⟨v3, rfl, ho3, hb3⟩
             obtain ⟨A4, c4, rfl, hI4⟩ := own_ints ho3 (fun y hy => numsUpto_small _ 8 y (Nat.le_refl _) hy)
             have s1 := HS.out _ hb3
             have HBO := Lib.hid (bitsOf_any (numsUpto (callB ⟨d.op, d.n, d.k⟩) 8) A4 c4 vd (hI4.mono_ (Nat.zero_le _) (Nat.le_refl _)) (Nat.le_trans (numsUpto_len _ 8) (by decide)) (nums_in _))
             rw [bv_nums] at HBO
             have HRA2 := Lib.hid (HRA.out.below hb3 HRA.out.size)
             have hrb2 := HRB.out.below hb3 HRB.out.size
             have qv := hrb2.cell (cellsG_at _ e8)
             have fv := hrb2.free d.nm.toNat
             have HRB2 := Lib.hid hrb2
             have hrd2 := (HRD.out.below hb3 HRD.out.size).apart (p := ⟨w.heap.size + 1, d.nm.toNat, none⟩) (by have := HLT.out; show wr.heap.size ≠ w.heap.size + 1; omega) (.int .u8 (bv (callB ⟨d.op, d.n, d.k⟩) : Int))
             have s2 := HSR.out _ hrd2
             clear hrd2
             have HBD2 := Lib.hid (HBD.out.trans (hb3.mono HBD.out.size))
             clear ho3 hI4 hb3 hrb2)
          | fail)
      all_goals
        have HP1 := Lib.hid (HRB2.out.put d.nm.toNat (.int .u8 (bv (callB ⟨d.op, d.n, d.k⟩) : Int)))
        have HP2 := Lib.hid (HRA2.out.apart (p := ⟨w.heap.size + 1, d.nm.toNat, none⟩) (by simp) (.int .u8 (bv (callB ⟨d.op, d.n, d.k⟩) : Int)))
        have HP3 := Lib.hid (HBD2.out.setCell (p := ⟨w.heap.size + 1, d.nm.toNat, none⟩) (by simp) (.int .u8 (bv (callB ⟨d.op, d.n, d.k⟩) : Int)))
        have HPE := Lib.hid (show (cellsG (gra (ds.take j))).setIfInBounds d.nm.toNat (.int .u8 (bv (callB ⟨d.op, d.n, d.k⟩) : Int)) = cellsG (gra (ds.take (j + 1))) by
          rw [cellsG_put _ _ e8]
          exact cellsG_congr fun f _ i _ => by rw [HST.out f]; rfl)
        clear qv fv s0 s1 s2
        go_wp2_with fail
        go_roundw
        case rel => exact ⟨j + 1, hlt, by go_num, HP2.out, by rw [← HPE.out]; exact HP1.out, HP3.out⟩
        case measure => simp [intOf]; omega
    · have e9 : j = ds.length := by omega
      subst e9
      rw [List.take_length, show gra ds = edge ds from funext (gra_is ds)] at hrb
      have HP1 := Lib.hid hrb
      have HP2 := Lib.hid hra
      have HP3 := Lib.hid hb
      obtain ⟨a0, a1, a2, a3, a4, a5, a6, a7⟩ := hrb.eightG
      obtain ⟨b0, b1, b2, b3, b4, b5, b6, b7⟩ := hra.eightG
      have f0 := hra.free 0
      have f1 := hra.free 1
      have f2 := hra.free 2
      have f3 := hra.free 3
      have f4 := hra.free 4
      have f5 := hra.free 5
      have f6 := hra.free 6
      have f7 := hra.free 7
      have HE := Lib.hid (put8G_row (edge ds) hra)
      have HEB := Lib.hid (put8G_below (G := edge ds) hb (Nat.le_refl _))
      clear hra hrb hb
      go_wp2_with fail
      obtain ⟨r0, r1, r2, r3, r4, r5, r6, r7⟩ := HE.out.eightG
      unfold put8G at r0 r1 r2 r3 r4 r5 r6 r7
      refine bodyPost_ret (v := .agg (cellsG (edge ds))) ?_ rfl ⟨rfl, HEB.out⟩
      simp [results, Try.f36, go_sem, r0, r1, r2, r3, r4, r5, r6, r7, cellsG]
set_option maxHeartbeats 1000000 in
theorem callersOf_any (G : Nat → Nat → Bool) (x : Int) (w : World) :
    Calls Try.prog 37 #[.agg (cellsG G), .int .i64 x] w (Gives (.int .u8 (bv (fun f => inVar x && G f x.toNat) : Int)) w) := by
  obtain ⟨hb1, hr1⟩ := one_box w 61 (cellsG G)
  obtain ⟨b0, b1, b2, b3, b4, b5, b6, b7⟩ := hr1.eightG
  have HB1 := Lib.hid hb1
  unfold cellsG at *
  go_enter Try.func37, Try.ntmps37
  go_wp2_with fail
  clear b0 b1 b2 b3 b4 b5 b6 b7 hr1 hb1
  go_loopw [5, 9] (fun v i wr => ∃ (j : Nat), j ≤ 8 ∧ i = .int .i64 (j : Int) ∧ v = .int .u8 (bv (fun f => decide (f < j) && (inVar x && G f x.toNat)) : Int) ∧ Below w.heap.size w wr)
    (fun _ i _ => 8 - (intOf i).toNat)
  case atStart => exact ⟨0, by omega, rfl, rfl, HB1.out⟩
  case round =>
    clear HB1
    obtain ⟨j, hj, rfl, rfl, hb⟩ := hrel
    by_cases hlt : j < 8
    · have hix := indexG_run G hlt
      unfold cellsG at hix
      have HH := Lib.hid (bitsHas_any (G j) x wr)
      have HB := Lib.hid hb
      have HS := Lib.hid (bit_or (fun f => decide (f < j) && (inVar x && G f x.toNat)) hlt)
      clear hb
      go_wp2_with fail
      refine HH.out.mono ?_
      rintro e w2 ⟨rfl, rfl⟩
      clear HH hix
      obtain ⟨q, hq⟩ : ∃ q, q = (inVar x && G j x.toNat) := ⟨_, rfl⟩
      rw [← hq]
      have HQ := Lib.hid hq
      clear hq
      cases q with
      | false =>
        have HE := Lib.hid (show bv (fun f => decide (f < j + 1) && (inVar x && G f x.toNat)) = bv (fun f => decide (f < j) && (inVar x && G f x.toNat)) from bv_congr fun i _ => by
          by_cases hi : i = j
          · subst hi; rw [← HQ.out, Bool.and_false, Bool.and_false]
          · have : decide (i < j + 1) = decide (i < j) := decide_eq_decide.2 (by omega)
            rw [this])
        go_wp2_with fail
        go_roundw
        case rel => exact ⟨j + 1, hlt, by go_num, by rw [HE.out], HB.out⟩
        case measure => simp [intOf]; omega
      | true =>
        have HE := Lib.hid (show bv (fun f => decide (f < j + 1) && (inVar x && G f x.toNat)) = bv (fun i => (decide (i < j) && (inVar x && G i x.toNat)) || decide (i = j)) from bv_congr fun i _ => by
          by_cases hi : i = j
          · subst hi; rw [← HQ.out]; simp
          · have : decide (i < j + 1) = decide (i < j) := decide_eq_decide.2 (by omega)
            rw [this, decide_eq_false hi, Bool.or_false])
        go_wp2_with fail
        go_roundw
        case rel =>
          refine ⟨j + 1, hlt, by go_num, ?_, HB.out⟩
          rw [HE.out, ← HS.out]
        case measure => simp [intOf]; omega
    · have e9 : j = 8 := by omega
      subst e9
      have HE := Lib.hid (show bv (fun f => decide (f < 8) && (inVar x && G f x.toNat)) = bv (fun f => inVar x && G f x.toNat) from bv_congr fun i hi => by rw [decide_eq_true hi, Bool.true_and])
      have HB := Lib.hid hb
      clear hb
      go_wp2
      go_ret
      exact ⟨by rw [← HE.out]; rfl, HB.out⟩

set_option maxHeartbeats 1000000 in
theorem implCallers_r (ds : List De) (DA : Option Addr) (DC L B : Nat) (x : Int) (w : World) (hd : LiesD w L B DA ds) (hB : B ≤ w.heap.size) (hdz : sizeD ds ≤ 1048576) :
    Calls Try.prog 12 #[.slice DA ds.length DC, .int .i64 x] w (ListPost (callersL ds x) w) := by
  have HV := Lib.hid (implLibValid_r ds DA DC L B w hd hB hdz)
  cases hok : libOk ds with
  | false =>
    have HZ := Lib.hid (callersL_no hok x)
    rw [hok] at HV
    clear hok
    go_enter Try.func12, Try.ntmps12
    go_wp2_with fail
    refine HV.out.mono ?_
    rintro e w2 ⟨rfl, hb2⟩
    go_wp2
    go_ret
    exact ⟨_, rfl, by rw [HZ.out]; exact World.ownsRow_nil _ _ _ _, hb2⟩
  | true =>
    have HZ := Lib.hid (callersL_yes hok x)
    have HOK := Lib.hid hok
    have HD := Lib.hid hd
    rw [hok] at HV
    clear hok hd
    go_enter Try.func12, Try.ntmps12
    go_wp2_with fail
    refine HV.out.mono ?_
    rintro e w2 ⟨rfl, hb2⟩
    have HB2 := Lib.hid hb2
    have HG := Lib.hid (graphOf_any ds DA DC L B w2 (HD.out.below (hb2.mono hB)) (Nat.le_trans hB hb2.size) hdz HOK.out)
    clear hb2 HV
    go_wp2_with fail
    refine HG.out.mono ?_
    rintro e w3 ⟨rfl, hb3⟩
    have HB3 := Lib.hid (HB2.out.trans (hb3.mono HB2.out.size))
    have HC := Lib.hid (callersOf_any (edge ds) x w3)
    clear hb3 HB2 HG
    go_wp2_with fail
    refine HC.out.mono ?_
    rintro e w4 ⟨rfl, hb4⟩
    have HB4 := Lib.hid (HB3.out.trans (hb4.mono HB3.out.size))
    have HL := Lib.hid (bitsList_any (fun f => inVar x && edge ds f x.toNat) w4)
    clear hb4 HB3 HC
    go_wp2_with fail
    refine HL.out.mono ?_
    rintro e w5 ⟨v5, rfl, ho5, hb5⟩
    have HB5 := Lib.hid (HB4.out.trans (hb5.mono HB4.out.size))
    have HO5 := Lib.hid (own_less ho5 HB4.out.size)
    clear hb5 HB4 HL ho5
    go_wp2_with fail
    go_ret
    exact ⟨_, rfl, by rw [HZ.out]; exact HO5.out, HB5.out⟩
end Go.Proofs.Ytdconngmobpkoaa
