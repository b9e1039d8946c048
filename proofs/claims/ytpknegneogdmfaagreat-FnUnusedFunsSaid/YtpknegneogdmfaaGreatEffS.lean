/-
  spec.l2From.
  spec.l5Outs.
  spec.l5Quiet and spec.l5Ending.
  spec.QuietFuns and spec.EndingFuns.
-/
import Derived.Test.YtpknegneogdmfaaGreatEffD
import Derived.Test.YtpknegneogdmfaaGreatCallsM
import Derived.Test.YtpknegneogdmfaaGreatFo
import Derived.Deep.RegionWith
import Derived.Test.YtpknegneogdmfaaGreatRows
import Derived.Test.YtpknegneogdmfaaGreatDe
import Derived.WalkKit
import Derived.WalkSpells
import Derived.WalkSmall
import Derived.Lib.Hide
import Derived.BigRegion
import Derived.Deep.RegionHeld3
namespace Go.Proofs.YtpknegneogdmfaaGreat
open Go.RowKit
set_option maxRecDepth 100000

theorem swp_take {S : Nat → Bool} {ds : List De} {j : Nat} {d : De} (h : ds[j]? = some d) : swp S (ds.take (j + 1)) = swp1 (swp S (ds.take j)) d := by
  unfold swp
  rw [List.take_add_one, h, List.foldl_append]
  rfl
theorem swp1_no {S : Nat → Bool} {d : De} (h : (inVar d.nm && S d.nm.toNat) = false) : swp1 S d = S := by unfold swp1; rw [h]; rfl
theorem swp1_yes {S : Nat → Bool} {d : De} (h : inVar d.nm = true) (h2 : S d.nm.toNat = true) : swp1 S d = fun i => S i || callB ⟨d.op, d.n, d.k⟩ i := by unfold swp1; rw [h, h2]; rfl
theorem not_inVar_low {x : Int} (h : x < 0) : inVar x = false := by unfold inVar; simp; omega
theorem not_inVar_high {x : Int} (h : 8 ≤ x) : inVar x = false := by unfold inVar; simp; omega

def FromPost (T : Nat → Bool) (w : World) (e : Ending) (w' : World) : Prop :=
  ∃ g, e = .returned (.slice (some ⟨g, 0, none⟩) 8 8) ∧ Row w' g 4 (cells8 T) ∧ w.heap.size ≤ g ∧ Below w.heap.size w w'

set_option maxHeartbeats 4000000 in
theorem l2From_any (ds : List De) (DA : Option Addr) (DC : Nat) (op n : Int) (k : Fo) (A : Option Addr) (c : Nat) (w : World) (hd : LiesD w 0 w.heap.size DA ds) (hl : Lies w 0 w.heap.size A 0 k) (hdz : sizeD ds ≤ 1048576) (hsz : k.size ≤ 1048576) :
    Calls Tryz.prog 26 #[.slice DA ds.length DC, .agg #[.int .i64 op, .int .i64 n, .slice A k.len c]] w (FromPost (rnds ds (callB ⟨op, n, k⟩) ds.length) w) := by
  have hmk := madeF_run
  have hds := Nat.le_trans (sizeD_len ds) hdz
  have hr0 := Row.fresh w 36 #[Value.int IntKind.i64 op, Value.int IntKind.i64 n, Value.slice A k.len c]
  have hb0 : Below w.heap.size w (w.alloc (Obj.cells #[Value.int IntKind.i64 op, Value.int IntKind.i64 n, Value.slice A k.len c] 36)) := (Below.refl _ _).alloc (Nat.le_refl _) _
  have q0 := hr0.cell (i := 0) rfl
  have q1 := hr0.cell (i := 1) rfl
  have q2 := hr0.cell (i := 2) rfl
  have p0 := (hr0.alloc (.cells (cells8 fun _ => false) 4)).cell (i := 0) rfl
  have p1 := (hr0.alloc (.cells (cells8 fun _ => false) 4)).cell (i := 1) rfl
  have p2 := (hr0.alloc (.cells (cells8 fun _ => false) 4)).cell (i := 2) rfl
  have hrow0 : Row ((w.alloc (Obj.cells #[Value.int IntKind.i64 op, Value.int IntKind.i64 n, Value.slice A k.len c] 36)).alloc (Obj.cells (cells8 fun _ => false) 4)).drew (w.heap.size + 1) 4 (cells8 fun _ => false) := by
    have := (Row.fresh (w.alloc (Obj.cells #[Value.int IntKind.i64 op, Value.int IntKind.i64 n, Value.slice A k.len c] 36)) 4 (cells8 fun _ => false)).drew
    rw [World.size_alloc] at this
    exact this
  have hb1 : Below w.heap.size w ((w.alloc (Obj.cells #[Value.int IntKind.i64 op, Value.int IntKind.i64 n, Value.slice A k.len c] 36)).alloc (Obj.cells (cells8 fun _ => false) 4)).drew := (hb0.alloc (by simp) _).drew
  have HB1 := Lib.hid hb1
  have hz1 : w.heap.size + 1 < ((w.alloc (Obj.cells #[Value.int IntKind.i64 op, Value.int IntKind.i64 n, Value.slice A k.len c] 36)).alloc (Obj.cells (cells8 fun _ => false) 4)).drew.heap.size := by simp
  have HZ1 := Lib.hid hz1
  have HC := Lib.hid (l1Calls_any k.size (w.heap.size + 1) 0 w.heap.size op n k A c _ (fun _ => false) rfl (hl.below hb1) hb1.size (.inr (Nat.le_succ _)) hrow0 hsz)
  have HD := Lib.hid hd
  clear hb0 hr0 hl hrow0 hb1 hz1 hd
  go_enter Tryz.func26, Tryz.ntmps26
  go_wp2_with fail
  go_region_with (go_at_call 44
                  refine HC.out.mono ?_
                  rintro e w5 ⟨rfl, hrow5, hon5⟩)
  all_goals
    have hb5 : Below w.heap.size w w5 := HB1.out.trans ((hon5.mono (Nat.le_of_lt (Nat.lt_of_succ_lt HZ1.out))).below (Nat.le_succ _))
    have hcg : cells8 (fun i => false || callB ⟨op, n, k⟩ i) = cells8 (rnds ds (callB ⟨op, n, k⟩) 0) := cells8_congr (fun i _ => by simp [rnds])
    rw [hcg] at hrow5
    generalize hS : callB ⟨op, n, k⟩ = S at hrow5
    have HSS := Lib.hid hS
    clear hS
    clear hon5 hcg q0 q1 q2 p0 p1 p2 hmk HC HB1 HZ1
    go_wp2
    go_loopw [5, 6] (fun v i wr => ∃ (j : Nat), j ≤ ds.length ∧ i = .int .i64 j ∧ v = .slice (some ⟨w.heap.size + 1, 0, none⟩) 8 8 ∧ Row wr (w.heap.size + 1) 4 (cells8 (rnds ds S j)) ∧ Below w.heap.size w wr)
      (fun _ i _ => ds.length - (intOf i).toNat)
    case atStart => exact ⟨0, by omega, rfl, rfl, hrow5, hb5⟩
    case round =>
      clear hrow5 hb5
      obtain ⟨j, hj, rfl, rfl, hrow, hb⟩ := hrel
      by_cases hlt : j < ds.length
      · obtain ⟨wo, rfl⟩ : ∃ wo : World, wo = wr := ⟨_, rfl⟩
        have hT : rnds ds S (j + 1) = swp (rnds ds S j) (ds.take ds.length) := by rw [List.take_length]; rfl
        have HT := Lib.hid hT
        clear hT
        generalize rnds ds S j = T at hrow HT
        go_wp2
        go_loopw [5, 7] (fun v i wr => ∃ (x : Nat), x ≤ ds.length ∧ i = .int .i64 x ∧ v = .slice (some ⟨w.heap.size + 1, 0, none⟩) 8 8 ∧ Row wr (w.heap.size + 1) 4 (cells8 (swp T (ds.take x))) ∧ Below w.heap.size w wr)
          (fun _ i _ => ds.length - (intOf i).toNat)
        case atStart => exact ⟨0, by omega, rfl, rfl, hrow, hb⟩
        case round =>
          clear hrow hb
          obtain ⟨x, hx, rfl, rfl, hrow, hb⟩ := hrel
          by_cases hltx : x < ds.length
          · have e1 := List.getElem?_eq_getElem hltx
            generalize ds[x] = d at e1
            have hst := swp_take (S := T) e1
            generalize swp T (ds.take x) = U at hrow hst
            obtain ⟨b, o, A', c', hA, _, hbb, hf, g1, g2, g3, g4, g5, g6, h7, h8, h9⟩ := HD.out.below hb x d e1
            subst hA
            have hks : d.k.size ≤ 1048576 := by have := sizeD_at e1; omega
            have HST := Lib.hid hst
            have HROW := Lib.hid hrow
            have HB := Lib.hid hb
            have H9 := Lib.hid h9
            clear e1 hst hrow hb h9 g2 g3 hf
            by_cases hlo : d.nm < 0
            · have HF := Lib.hid (swp1_no (S := U) (d := d) (by rw [not_inVar_low hlo]; rfl))
              have hlo2 : ¬ 0 ≤ d.nm := by omega
              go_wp2
              go_roundw
              case rel => exact ⟨x + 1, hltx, by go_num, rfl, by rw [HST.out, HF.out]; exact HROW.out, HB.out⟩
              case measure => simp [intOf]; omega
            · by_cases hhi : d.nm < 8
              · obtain ⟨v, hv⟩ : ∃ v : Nat, d.nm = (v : Int) := ⟨d.nm.toNat, by omega⟩
                have hv8 : v < 8 := by omega
                have hiv : inVar d.nm = true := by unfold inVar; simp; omega
                have htn : d.nm.toNat = v := by omega
                have hcell := HROW.out.cell (cells8_at U hv8)
                rw [hv] at g1
                have HF0 := Lib.hid (show ∀ b, U v = b → b = true → swp1 U d = fun i => U i || callB ⟨d.op, d.n, d.k⟩ i from fun b h1 h2 => swp1_yes hiv (by rw [htn, h1]; exact h2))
                have HF1 := Lib.hid (show U v = false → swp1 U d = U from fun h1 => swp1_no (by rw [htn, h1, Bool.and_false]))
                clear hlo hhi hv hiv htn
                cases hU : U v with
                | false =>
                  rw [hU] at hcell
                  have HF := Lib.hid (HF1.out hU)
                  clear hU HF0 HF1
                  go_wp2
                  go_roundw
                  case rel => exact ⟨x + 1, hltx, by go_num, rfl, by rw [HST.out, HF.out]; exact HROW.out, HB.out⟩
                  case measure => simp [intOf]; omega
                | true =>
                  rw [hU] at hcell
                  have HF := Lib.hid (HF0.out true hU rfl)
                  clear hU HF0 HF1
                  go_wp2_with fail
                  refine (l1Calls_any d.k.size (w.heap.size + 1) 0 w.heap.size d.op d.n d.k A' c' wr U rfl H9.out HB.out.size (.inr (Nat.le_succ _)) HROW.out hks).mono ?_
                  rintro e w6 ⟨rfl, hrow6, hon6⟩
                  have HB6 := Lib.hid (HB.out.trans ((hon6.mono (B' := w.heap.size) HB.out.size).below (Nat.le_succ _)))
                  have HR6 := Lib.hid hrow6
                  clear hrow6 hon6 hcell g1 g4 g5 g6 HB HROW H9
                  go_wp2
                  go_roundw
                  case rel => exact ⟨x + 1, hltx, by go_num, rfl, by rw [HST.out, HF.out]; exact HR6.out, HB6.out⟩
                  case measure => simp [intOf]; omega
              · have HF := Lib.hid (swp1_no (S := U) (d := d) (by rw [not_inVar_high (by omega)]; rfl))
                have hlo2 : 0 ≤ d.nm := by omega
                go_wp2
                go_roundw
                case rel => exact ⟨x + 1, hltx, by go_num, rfl, by rw [HST.out, HF.out]; exact HROW.out, HB.out⟩
                case measure => simp [intOf]; omega
          · have e9 : x = ds.length := by omega
            subst e9
            rw [← HT.out] at hrow
            have HROW := Lib.hid hrow
            have HB := Lib.hid hb
            clear hrow hb
            go_wp2
            go_roundw
            case rel => exact ⟨j + 1, hlt, by go_num, rfl, HROW.out, HB.out⟩
            case measure => simp [intOf]; omega
      · have e9 : j = ds.length := by omega
        subst e9
        go_wp2
        go_ret
        exact ⟨_, rfl, by rw [HSS.out]; exact hrow, Nat.le_succ _, hb⟩
end Go.Proofs.YtpknegneogdmfaaGreat

namespace Go.Proofs.YtpknegneogdmfaaGreat
open Go.RowKit
set_option maxRecDepth 100000

end Go.Proofs.YtpknegneogdmfaaGreat

namespace Go.Proofs.YtpknegneogdmfaaGreat
open Go.RowKit
set_option maxRecDepth 100000

theorem all_take_succ {α : Type} {p : α → Bool} {ds : List α} {j : Nat} {d : α} (h : ds[j]? = some d) : (ds.take (j + 1)).all p = ((ds.take j).all p && p d) := by
  rw [List.take_add_one, h, List.all_append]; simp
theorem all_take_false {α : Type} {p : α → Bool} {ds : List α} {d : α} (h : d ∈ ds) (hp : p d = false) : ds.all p = false := by
  rw [Bool.eq_false_iff]
  intro hn
  rw [List.all_eq_true] at hn
  rw [hn d h] at hp
  cases hp

end Go.Proofs.YtpknegneogdmfaaGreat
