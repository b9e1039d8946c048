/-
  impl.funBits: has, list; impl.bitsOf; impl.graphOf; impl.callGraph: callersOf; impl.CallersOf (made by gen_gra.py).
-/
import Derived.Test.YtpknegneogdmfaaGreatGraD
import Derived.Test.YtpknegneogdmfaaGreatLibVI
import Derived.Test.YtpknegneogdmfaaGreatCallsM
import Derived.Maps.AppendAt
import Derived.Laws.BitsAllLaws
import Derived.Deep.RegionHeld3
import Derived.Deep.RegionWith
import Derived.Deep.CutRange
namespace Go.Proofs.YtpknegneogdmfaaGreat
open Go.RowKit Go.Shelf
set_option maxRecDepth 100000

-- the program's sets
theorem bit_has (T : Nat → Bool) {v : Nat} (h : v < 8) : bits .and .u8 ((bv T : Int) / 2 ^ v) 1 = ((T v).toNat : Int) := by
  have e : ((bv T : Nat) : Int) / 2 ^ v = ((bv T / 2 ^ v : Nat) : Int) := by
    rw [Int.natCast_ediv]
    congr 1
  have h1 := bv_lt T
  have h2 : bv T / 2 ^ v ≤ bv T := Nat.div_le_self _ _
  rw [e, show (1 : Int) = ((1 : Nat) : Int) from rfl, u8_and_nat _ _ (by omega) (by decide), bv_has T h]
theorem bit_or (T : Nat → Bool) {v : Nat} (h : v < 8) : bits .or .u8 (bv T : Int) (2 ^ v % 256) = ((bv (fun i => T i || decide (i = v)) : Nat) : Int) := by
  have e : (2 ^ v % 256 : Int) = ((2 ^ v : Nat) : Int) := by
    rcases v with _ | _ | _ | _ | _ | _ | _ | _ | v
    all_goals first | decide | omega
  have h2 : (2 : Nat) ^ v < 256 := by
    have := Nat.pow_lt_pow_right (show 1 < 2 by decide) h
    omega
  rw [e, u8_or_nat _ _ (bv_lt T) h2, bv_or1 T h]
theorem bit_diff (S T : Nat → Bool) : bits .andNot .u8 (bv S : Int) (bv T : Int) = ((bv (fun i => S i && !T i) : Nat) : Int) := by
  rw [u8_andNot_nat _ _ (bv_lt S) (bv_lt T), bv_diff]

theorem bitsHas_any (T : Nat → Bool) (x : Int) (w : World) :
    Calls Tryz.prog 11 #[.int .u8 (bv T : Int), .int .i64 x] w fun e w' => e = .returned (.bool (inVar x && T x.toNat)) ∧ w' = w := by
  cases hx : inVar x with
  | false =>
    have HQ := Lib.hid (isFun_quiet x false hx w)
    go_enter Tryz.func11, Tryz.ntmps11
    go_wp2_with fail
    refine HQ.out.mono ?_
    rintro e w2 ⟨rfl, rfl⟩
    go_wp2
    go_ret
    exact ⟨rfl, rfl⟩
  | true =>
    have HQ := Lib.hid (isFun_quiet x true hx w)
    obtain ⟨e0, e8⟩ := inVar_nat hx
    generalize x.toNat = v at e0 e8 ⊢
    subst e0
    have HH := Lib.hid (bit_has T e8)
    clear hx
    go_enter Tryz.func11, Tryz.ntmps11
    go_wp2_with fail
    refine HQ.out.mono ?_
    rintro e w2 ⟨rfl, rfl⟩
    go_wp2
    go_ret
    refine ⟨ret_bool ?_, rfl⟩
    have h1 := HH.out
    cases ht : T v with
    | true => rw [ht] at h1; simpa using h1
    | false => rw [ht] at h1; simp [h1]

set_option maxHeartbeats 1000000 in
theorem bitsOf_any (zs : List Int) (A : Option Addr) (c : Nat) (w : World) (hl : LiesI w 0 w.heap.size A zs) (hz : zs.length ≤ 1048576) (hv : ∀ x ∈ zs, inVar x = true) :
    Calls Tryz.prog 21 #[.slice A zs.length c] w fun e w' => e = .returned (.int .u8 (bv (inL zs) : Int)) ∧ w' = w := by
  have HL := Lib.hid hl
  have HV := Lib.hid hv
  clear hl hv
  go_enter Tryz.func21, Tryz.ntmps21
  go_wp2_with fail
  go_loopw [3, 8] (fun v i wr => ∃ (j : Nat), j ≤ zs.length ∧ i = .int .i64 (j : Int) ∧ v = .int .u8 (bv (inL (zs.take j)) : Int) ∧ wr = w)
    (fun _ i _ => zs.length - (intOf i).toNat)
  case atStart => exact ⟨0, by omega, rfl, rfl, rfl⟩
  case round =>
    obtain ⟨j, hj, rfl, rfl, rfl⟩ := hrel
    by_cases hlt : j < zs.length
    · have e1 := List.getElem?_eq_getElem hlt
      have hxm := List.getElem_mem hlt
      generalize zs[j] = x at e1 hxm
      obtain ⟨b, o, hA, _, hbb, ix, g1⟩ := HL.out j x e1
      subst hA
      obtain ⟨e0, e8⟩ := inVar_nat (HV.out x hxm)
      have hst : inL (zs.take (j + 1)) = fun i => inL (zs.take j) i || decide (i = x.toNat) := by
        rw [List.take_add_one, e1]
        exact inL_snoc _ _
      generalize x.toNat = v at e0 e8 hst
      subst e0
      have HS := Lib.hid (bit_or (inL (zs.take j)) e8)
      rw [← hst] at HS
      clear hst e1 hxm
      go_wp2
      go_roundw
      case rel =>
        refine ⟨j + 1, hlt, by go_num, ?_, trivial⟩
        rw [← HS.out]
      case measure => simp [intOf]; omega
    · have e9 : j = zs.length := by omega
      subst e9
      have HE := Lib.hid (show zs.take zs.length = zs from List.take_length)
      go_wp2
      go_ret
      exact ⟨by first | rfl | (rw [HE.out]; rfl), rfl⟩
theorem bv_nums (S : Nat → Bool) : bv (inL (numsUpto S 8)) = bv S := by
  refine bv_congr fun i hi => ?_
  cases h : S i with
  | true => exact List.any_eq_true.2 ⟨(i : Int), (nums_iff S 8 _).2 ⟨i, hi, rfl, h⟩, decide_eq_true (by omega)⟩
  | false =>
    cases hn : inL (numsUpto S 8) i with
    | false => rfl
    | true =>
      obtain ⟨x, hx, e⟩ := List.any_eq_true.1 hn
      obtain ⟨v, _, rfl, hv⟩ := (nums_iff S 8 x).1 hx
      have e2 : v = i := by have := of_decide_eq_true e; omega
      rw [e2, h] at hv
      cases hv

def cellsG (G : Nat → Nat → Bool) : Array Value := #[.int .u8 (bv (G 0) : Int), .int .u8 (bv (G 1) : Int), .int .u8 (bv (G 2) : Int), .int .u8 (bv (G 3) : Int), .int .u8 (bv (G 4) : Int), .int .u8 (bv (G 5) : Int), .int .u8 (bv (G 6) : Int), .int .u8 (bv (G 7) : Int)]
theorem cellsG_at (G : Nat → Nat → Bool) {i : Nat} (h : i < 8) : (cellsG G)[i]? = some (.int .u8 (bv (G i) : Int)) := by
  rcases i with _ | _ | _ | _ | _ | _ | _ | _ | i
  all_goals first | rfl | omega
theorem cellsG_put (G : Nat → Nat → Bool) (S : Nat → Bool) {v : Nat} (h : v < 8) : (cellsG G).setIfInBounds v (.int .u8 (bv S : Int)) = cellsG (fun f => if f = v then S else G f) := by
  rcases v with _ | _ | _ | _ | _ | _ | _ | _ | v
  all_goals first | rfl | omega
theorem cellsG_congr {G H : Nat → Nat → Bool} (h : ∀ f, f < 8 → ∀ i, i < 8 → G f i = H f i) : cellsG G = cellsG H := by
  unfold cellsG
  rw [bv_congr (h 0 (by decide)), bv_congr (h 1 (by decide)), bv_congr (h 2 (by decide)), bv_congr (h 3 (by decide)), bv_congr (h 4 (by decide)), bv_congr (h 5 (by decide)), bv_congr (h 6 (by decide)), bv_congr (h 7 (by decide))]
/-- What the functions among the first ones call. -/
def gra (l : List De) (f : Nat) : Nat → Bool := match fnd (f : Int) l with | some d => callD d | none => fun _ => false
theorem gra_is (ds : List De) (f : Nat) : gra ds f = edge ds f := by
  funext g
  unfold gra edge
  cases fnd (f : Int) ds <;> rfl
theorem gra_step {ds : List De} (h : libOk ds = true) {j : Nat} {d : De} (hd : ds[j]? = some d) (f : Nat) : gra (ds.take (j + 1)) f = if f = d.nm.toNat then callD d else gra (ds.take j) f := by
  have hm := List.mem_of_getElem? hd
  obtain ⟨e0, e8⟩ := inVar_nat (libOk_named h d hm).1
  unfold gra
  rw [fnd_take hd]
  by_cases e : f = d.nm.toNat
  · subst e
    rw [if_pos rfl, e0, if_pos rfl]
    cases hf : fnd d.nm (ds.take j) with
    | none => rfl
    | some d2 =>
      have h3 : fnd d.nm ds = some d2 := by
        have h4 := List.take_append_drop j ds
        unfold fnd at hf ⊢
        rw [← h4, List.find?_append, hf]
        rfl
      rw [(libOk_named h d hm).2] at h3
      injection h3 with h3
      subst h3
      rfl
  · rw [if_neg e, if_neg (show ¬ d.nm = (f : Int) by omega)]
    cases fnd (f : Int) (ds.take j) <;> rfl
theorem Row.eightG {w : World} {g : Nat} {t : TypeId} {G : Nat → Nat → Bool} (h : Row w g t (cellsG G)) : w.cell? ⟨g, 0, none⟩ = some (.int .u8 (bv (G 0) : Int)) ∧ w.cell? ⟨g, 1, none⟩ = some (.int .u8 (bv (G 1) : Int)) ∧ w.cell? ⟨g, 2, none⟩ = some (.int .u8 (bv (G 2) : Int)) ∧
    w.cell? ⟨g, 3, none⟩ = some (.int .u8 (bv (G 3) : Int)) ∧ w.cell? ⟨g, 4, none⟩ = some (.int .u8 (bv (G 4) : Int)) ∧ w.cell? ⟨g, 5, none⟩ = some (.int .u8 (bv (G 5) : Int)) ∧ w.cell? ⟨g, 6, none⟩ = some (.int .u8 (bv (G 6) : Int)) ∧ w.cell? ⟨g, 7, none⟩ = some (.int .u8 (bv (G 7) : Int)) :=
  ⟨h.cell (i := 0) rfl, h.cell (i := 1) rfl, h.cell (i := 2) rfl, h.cell (i := 3) rfl, h.cell (i := 4) rfl, h.cell (i := 5) rfl, h.cell (i := 6) rfl, h.cell (i := 7) rfl⟩
def put8G (w : World) (g : Nat) (G : Nat → Nat → Bool) : World :=
  (((((((w.setCell ⟨g, 0, none⟩ (.int .u8 (bv (G 0) : Int))).setCell ⟨g, 1, none⟩ (.int .u8 (bv (G 1) : Int))).setCell ⟨g, 2, none⟩ (.int .u8 (bv (G 2) : Int))).setCell ⟨g, 3, none⟩ (.int .u8 (bv (G 3) : Int))).setCell ⟨g, 4, none⟩ (.int .u8 (bv (G 4) : Int))).setCell ⟨g, 5, none⟩ (.int .u8 (bv (G 5) : Int))).setCell ⟨g, 6, none⟩ (.int .u8 (bv (G 6) : Int))).setCell ⟨g, 7, none⟩ (.int .u8 (bv (G 7) : Int))
theorem put8G_below {B : Nat} {w0 w : World} {g : Nat} {G : Nat → Nat → Bool} (h : Below B w0 w) (hg : B ≤ g) : Below B w0 (put8G w g G) :=
  (((((((h.setCell hg _).setCell hg _).setCell hg _).setCell hg _).setCell hg _).setCell hg _).setCell hg _).setCell hg _
theorem put8G_row {w : World} {g : Nat} {t : TypeId} {F : Nat → Nat → Bool} (G : Nat → Nat → Bool) (h : Row w g t (cellsG F)) : Row (put8G w g G) g t (cellsG G) := by
  have h8 := (((((((h.put 0 (.int .u8 (bv (G 0) : Int))).put 1 (.int .u8 (bv (G 1) : Int))).put 2 (.int .u8 (bv (G 2) : Int))).put 3 (.int .u8 (bv (G 3) : Int))).put 4 (.int .u8 (bv (G 4) : Int))).put 5 (.int .u8 (bv (G 5) : Int))).put 6 (.int .u8 (bv (G 6) : Int))).put 7 (.int .u8 (bv (G 7) : Int))
  have e : ((((((((cellsG F).setIfInBounds 0 (.int .u8 (bv (G 0) : Int))).setIfInBounds 1 (.int .u8 (bv (G 1) : Int))).setIfInBounds 2 (.int .u8 (bv (G 2) : Int))).setIfInBounds 3 (.int .u8 (bv (G 3) : Int))).setIfInBounds 4 (.int .u8 (bv (G 4) : Int))).setIfInBounds 5 (.int .u8 (bv (G 5) : Int))).setIfInBounds 6 (.int .u8 (bv (G 6) : Int))).setIfInBounds 7 (.int .u8 (bv (G 7) : Int)) = cellsG G := by simp [cellsG]
  rw [e] at h8
  exact h8
end Go.Proofs.YtpknegneogdmfaaGreat
