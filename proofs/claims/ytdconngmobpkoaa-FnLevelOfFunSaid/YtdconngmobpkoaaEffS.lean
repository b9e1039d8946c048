/-
  spec.l2From.
  spec.l5Outs.
  spec.l5Quiet and spec.l5Ending.
  spec.QuietFuns and spec.EndingFuns.
-/
import Derived.Test.YtdconngmobpkoaaEffD
import Derived.Test.YtdconngmobpkoaaCallsM
import Derived.Test.YtdconngmobpkoaaFo
import Derived.Deep.RegionWith
import Derived.Test.YtdconngmobpkoaaRows
import Derived.Test.YtdconngmobpkoaaDe
import Derived.WalkKit
import Derived.WalkSpells
import Derived.WalkSmall
import Derived.Lib.Hide
import Derived.BigRegion
import Derived.Deep.RegionHeld3
namespace Go.Proofs.Ytdconngmobpkoaa
open Go.RowKit
set_option maxRecDepth 100000

theorem swp_take {S : Nat → Bool} {ds : List De} {j : Nat} {d : De} (h : ds[j]? = some d) : swp S (ds.take (j + 1)) = swp1 (swp S (ds.take j)) d := by
  unfold swp
  rw [List.take_add_one, h, List.foldl_append]
  rfl
theorem swp1_no {S : Nat → Bool} {d : De} (h : (inVar d.nm && S d.nm.toNat) = false) : swp1 S d = S := by unfold swp1; rw [h]; rfl
theorem swp1_yes {S : Nat → Bool} {d : De} (h : inVar d.nm = true) (h2 : S d.nm.toNat = true) : swp1 S d = fun i => S i || callB ⟨d.op, d.n, d.k⟩ i := by unfold swp1; rw [h, h2]; rfl
theorem not_inVar_low {x : Int} (h : x < 0) : inVar x = false := by unfold inVar; simp; omega
theorem not_inVar_high {x : Int} (h : 8 ≤ x) : inVar x = false := by unfold inVar; simp; omega

def FromPost (T : Nat → Bool) (w : World) (e : Ending) (w' : World) : Prop :=
  ∃ g, e = .returned (.slice (some ⟨g, 0, none⟩) 8 8) ∧ Row w' g 4 (cells8 T) ∧ w.heap.size ≤ g ∧ Below w.heap.size w w'

set_option maxHeartbeats 4000000 in
theorem l2From_any (ds : List De) (DA : Option Addr) (DC : Nat) (op n : Int) (k : Fo) (A : Option Addr) (c : Nat) (w : World) (hd : LiesD w 0 w.heap.size DA ds) (hl : Lies w 0 w.heap.size A 0 k) (hdz : sizeD ds ≤ 1048576) (hsz : k.size ≤ 1048576) :
    Calls Try.prog 68 #[.slice DA ds.length DC, .agg #[.int .i64 op, .int .i64 n, .slice A k.len c]] w (FromPost (rnds ds (callB ⟨op, n, k⟩) ds.length) w) := by
  have hmk := madeF_run
  have hds := Nat.le_trans (sizeD_len ds) hdz
  have hr0 := Row.fresh w 45 #[Value.int IntKind.i64 op, Value.int IntKind.i64 n, Value.slice A k.len c]
  have hb0 : Below w.heap.size w (w.alloc (Obj.cells #[Value.int IntKind.i64 op, Value.int IntKind.i64 n, Value.slice A k.len c] 45)) := (Below.refl _ _).alloc (Nat.le_refl _) _
  have q0 := hr0.cell (i := 0) rfl
  have q1 := hr0.cell (i := 1) rfl
  have q2 := hr0.cell (i := 2) rfl
  have p0 := (hr0.alloc (.cells (cells8 fun _ => false) 4)).cell (i := 0) rfl
  have p1 := (hr0.alloc (.cells (cells8 fun _ => false) 4)).cell (i := 1) rfl
  have p2 := (hr0.alloc (.cells (cells8 fun _ => false) 4)).cell (i := 2) rfl
  have hrow0 : Row ((w.alloc (Obj.cells #[Value.int IntKind.i64 op, Value.int IntKind.i64 n, Value.slice A k.len c] 45)).alloc (Obj.cells (cells8 fun _ => false) 4)).drew (w.heap.size + 1) 4 (cells8 fun _ => false) := by
    have := (Row.fresh (w.alloc (Obj.cells #[Value.int IntKind.i64 op, Value.int IntKind.i64 n, Value.slice A k.len c] 45)) 4 (cells8 fun _ => false)).drew
    rw [World.size_alloc] at this
    exact this
  have hb1 : Below w.heap.size w ((w.alloc (Obj.cells #[Value.int IntKind.i64 op, Value.int IntKind.i64 n, Value.slice A k.len c] 45)).alloc (Obj.cells (cells8 fun _ => false) 4)).drew := (hb0.alloc (by simp) _).drew
  have HB1 := Lib.hid hb1
  have hz1 : w.heap.size + 1 < ((w.alloc (Obj.cells #[Value.int IntKind.i64 op, Value.int IntKind.i64 n, Value.slice A k.len c] 45)).alloc (Obj.cells (cells8 fun _ => false) 4)).drew.heap.size := by simp
  have HZ1 := Lib.hid hz1
  have HC := Lib.hid (l1Calls_any k.size (w.heap.size + 1) 0 w.heap.size op n k A c _ (fun _ => false) rfl (hl.below hb1) hb1.size (.inr (Nat.le_succ _)) hrow0 hsz)
  have HD := Lib.hid hd
  clear hb0 hr0 hl hrow0 hb1 hz1 hd
  go_enter Try.func68, Try.ntmps68
  go_wp2_with fail
  go_region_with (go_at_call 61
                  refine HC.out.mono ?_
                  rintro e w5 ⟨rfl, hrow5, hon5⟩)
  all_goals
    have hb5 : Below w.heap.size w w5 := HB1.out.trans ((hon5.mono (Nat.le_of_lt (Nat.lt_of_succ_lt HZ1.out))).below (Nat.le_succ _))
    have hcg : cells8 (fun i => false || callB ⟨op, n, k⟩ i) = cells8 (rnds ds (callB ⟨op, n, k⟩) 0) := cells8_congr (fun i _ => by simp [rnds])
    rw [hcg] at hrow5
    generalize hS : callB ⟨op, n, k⟩ = S at hrow5
    have HSS := Lib.hid hS
    clear hS
    clear hon5 hcg q0 q1 q2 p0 p1 p2 hmk HC HB1 HZ1
    go_wp2
    go_loopw [5, 6] (fun v i wr => ∃ (j : Nat), j ≤ ds.length ∧ i = .int .i64 j ∧ v = .slice (some ⟨w.heap.size + 1, 0, none⟩) 8 8 ∧ Row wr (w.heap.size + 1) 4 (cells8 (rnds ds S j)) ∧ Below w.heap.size w wr)
      (fun _ i _ => ds.length - (intOf i).toNat)
    case atStart => exact ⟨0, by omega, rfl, rfl, hrow5, hb5⟩
    case round =>
      clear hrow5 hb5
      obtain ⟨j, hj, rfl, rfl, hrow, hb⟩ := hrel
      by_cases hlt : j < ds.length
      · obtain ⟨wo, rfl⟩ : ∃ wo : World, wo = wr := ⟨_, rfl⟩
        have hT : rnds ds S (j + 1) = swp (rnds ds S j) (ds.take ds.length) := by rw [List.take_length]; rfl
        have HT := Lib.hid hT
        clear hT
        generalize rnds ds S j = T at hrow HT
        go_wp2
        go_loopw [5, 7] (fun v i wr => ∃ (x : Nat), x ≤ ds.length ∧ i = .int .i64 x ∧ v = .slice (some ⟨w.heap.size + 1, 0, none⟩) 8 8 ∧ Row wr (w.heap.size + 1) 4 (cells8 (swp T (ds.take x))) ∧ Below w.heap.size w wr)
          (fun _ i _ => ds.length - (intOf i).toNat)
        case atStart => exact ⟨0, by omega, rfl, rfl, hrow, hb⟩
        case round =>
          clear hrow hb
          obtain ⟨x, hx, rfl, rfl, hrow, hb⟩ := hrel
          by_cases hltx : x < ds.length
          · have e1 := List.getElem?_eq_getElem hltx
            generalize ds[x] = d at e1
            have hst := swp_take (S := T) e1
            generalize swp T (ds.take x) = U at hrow hst
            obtain ⟨b, o, A', c', hA, _, hbb, hf, g1, g2, g3, g4, g5, g6, h7, h8, h9⟩ := HD.out.below hb x d e1
            subst hA
            have hks : d.k.size ≤ 1048576 := by have := sizeD_at e1; omega
            have HST := Lib.hid hst
            have HROW := Lib.hid hrow
            have HB := Lib.hid hb
            have H9 := Lib.hid h9
            clear e1 hst hrow hb h9 g2 g3 hf
            by_cases hlo : d.nm < 0
            · have HF := Lib.hid (swp1_no (S := U) (d := d) (by rw [not_inVar_low hlo]; rfl))
              have hlo2 : ¬ 0 ≤ d.nm := by omega
              go_wp2
              go_roundw
              case rel => exact ⟨x + 1, hltx, by go_num, rfl, by rw [HST.out, HF.out]; exact HROW.out, HB.out⟩
              case measure => simp [intOf]; omega
            · by_cases hhi : d.nm < 8
              · obtain ⟨v, hv⟩ : ∃ v : Nat, d.nm = (v : Int) := ⟨d.nm.toNat, by omega⟩
                have hv8 : v < 8 := by omega
                have hiv : inVar d.nm = true := by unfold inVar; simp; omega
                have htn : d.nm.toNat = v := by omega
                have hcell := HROW.out.cell (cells8_at U hv8)
                rw [hv] at g1
                have HF0 := Lib.hid (show ∀ b, U v = b → b = true → swp1 U d = fun i => U i || callB ⟨d.op, d.n, d.k⟩ i from fun b h1 h2 => swp1_yes hiv (by rw [htn, h1]; exact h2))
                have HF1 := Lib.hid (show U v = false → swp1 U d = U from fun h1 => swp1_no (by rw [htn, h1, Bool.and_false]))
                clear hlo hhi hv hiv htn
                cases hU : U v with
                | false =>
                  rw [hU] at hcell
                  have HF := Lib.hid (HF1.out hU)
                  clear hU HF0 HF1
                  go_wp2
                  go_roundw
                  case rel => exact ⟨x + 1, hltx, by go_num, rfl, by rw [HST.out, HF.out]; exact HROW.out, HB.out⟩
                  case measure => simp [intOf]; omega
                | true =>
                  rw [hU] at hcell
                  have HF := Lib.hid (HF0.out true hU rfl)
                  clear hU HF0 HF1
                  go_wp2_with fail
                  refine (l1Calls_any d.k.size (w.heap.size + 1) 0 w.heap.size d.op d.n d.k A' c' wr U rfl H9.out HB.out.size (.inr (Nat.le_succ _)) HROW.out hks).mono ?_
                  rintro e w6 ⟨rfl, hrow6, hon6⟩
                  have HB6 := Lib.hid (HB.out.trans ((hon6.mono (B' := w.heap.size) HB.out.size).below (Nat.le_succ _)))
                  have HR6 := Lib.hid hrow6
                  clear hrow6 hon6 hcell g1 g4 g5 g6 HB HROW H9
                  go_wp2
                  go_roundw
                  case rel => exact ⟨x + 1, hltx, by go_num, rfl, by rw [HST.out, HF.out]; exact HR6.out, HB6.out⟩
                  case measure => simp [intOf]; omega
              · have HF := Lib.hid (swp1_no (S := U) (d := d) (by rw [not_inVar_high (by omega)]; rfl))
                have hlo2 : 0 ≤ d.nm := by omega
                go_wp2
                go_roundw
                case rel => exact ⟨x + 1, hltx, by go_num, rfl, by rw [HST.out, HF.out]; exact HROW.out, HB.out⟩
                case measure => simp [intOf]; omega
          · have e9 : x = ds.length := by omega
            subst e9
            rw [← HT.out] at hrow
            have HROW := Lib.hid hrow
            have HB := Lib.hid hb
            clear hrow hb
            go_wp2
            go_roundw
            case rel => exact ⟨j + 1, hlt, by go_num, rfl, HROW.out, HB.out⟩
            case measure => simp [intOf]; omega
      · have e9 : j = ds.length := by omega
        subst e9
        go_wp2
        go_ret
        exact ⟨_, rfl, by rw [HSS.out]; exact hrow, Nat.le_succ _, hb⟩
end Go.Proofs.Ytdconngmobpkoaa

namespace Go.Proofs.Ytdconngmobpkoaa
open Go.RowKit
set_option maxRecDepth 100000

end Go.Proofs.Ytdconngmobpkoaa

namespace Go.Proofs.Ytdconngmobpkoaa
open Go.RowKit
set_option maxRecDepth 100000

theorem all_take_succ {α : Type} {p : α → Bool} {ds : List α} {j : Nat} {d : α} (h : ds[j]? = some d) : (ds.take (j + 1)).all p = ((ds.take j).all p && p d) := by
  rw [List.take_add_one, h, List.all_append]; simp
theorem all_take_false {α : Type} {p : α → Bool} {ds : List α} {d : α} (h : d ∈ ds) (hp : p d = false) : ds.all p = false := by
  rw [Bool.eq_false_iff]
  intro hn
  rw [List.all_eq_true] at hn
  rw [hn d h] at hp
  cases hp

set_option maxHeartbeats 4000000 in
theorem l5Ending_any (ds : List De) (DA : Option Addr) (DC : Nat) (f : Int) (w : World) (hd : LiesD w 0 w.heap.size DA ds) (hdz : sizeD ds ≤ 1048576) (hnm : ∀ d ∈ ds, inVar d.nm = true) :
    Calls Try.prog 43 #[.slice DA ds.length DC, .int .i64 f] w (Gives (.bool (endingS ds f)) w) := by
  have hds := Nat.le_trans (sizeD_len ds) hdz
  obtain ⟨F, hF⟩ : ∃ F, F = fromS ds 3 f .nil := ⟨_, rfl⟩
  obtain ⟨G, hG⟩ : ∃ G : De → Nat → Bool, G = fun d => fromS ds d.op d.n d.k := ⟨_, rfl⟩
  have HQ := Lib.hid (show endingS ds f = ds.all fun d => !(F d.nm.toNat && G d d.nm.toNat) by rw [hF, hG]; rfl)
  have HC := Lib.hid (show Calls Try.prog 68 #[.slice DA ds.length DC, .agg #[.int .i64 3, .int .i64 f, .slice none 0 0]] w (FromPost F w) from hF ▸ l2From_any ds DA DC 3 f .nil none 0 w hd trivial hdz (Nat.zero_le _))
  have HG := Lib.hid (fun d => congrFun hG d)
  have HD := Lib.hid hd
  have HN := Lib.hid hnm
  clear hF hG hd hnm
  go_enter Try.func43, Try.ntmps43
  go_wp2_with fail
  refine HC.out.mono ?_
  rintro e w2 ⟨g, rfl, hrow, hg, hb2⟩
  have HR2 := Lib.hid hrow
  have HB2 := Lib.hid hb2
  clear hrow hb2 HC
  go_wp2_with fail
  go_loopw [6] (fun i wr => ∃ (j : Nat), j ≤ ds.length ∧ i = .int .i64 j ∧ (ds.take j).all (fun d => !(F d.nm.toNat && G d d.nm.toNat)) = true ∧ Row wr g 4 (cells8 F) ∧ Below w.heap.size w wr)
    (fun i _ => ds.length - (intOf i).toNat)
  case atStart => exact ⟨0, by omega, rfl, rfl, HR2.out, HB2.out⟩
  case round =>
    clear HR2 HB2
    obtain ⟨j, hj, rfl, hall, hrow, hb⟩ := hrel
    by_cases hlt : j < ds.length
    · have e1 := List.getElem?_eq_getElem hlt
      generalize ds[j] = d at e1
      have hdm := List.mem_of_getElem? e1
      obtain ⟨b, o, A', c', hA, _, hbb, hf, g1, g2, g3, g4, g5, g6, h7, h8, h9⟩ := HD.out.below hb j d e1
      subst hA
      have hks : d.k.size ≤ 1048576 := by have := sizeD_at e1; omega
      obtain ⟨en, e8⟩ := inVar_nat (HN.out d hdm)
      have hst := all_take_succ (p := fun d : De => !(F d.nm.toNat && G d d.nm.toNat)) e1
      rw [hall, Bool.true_and] at hst
      have HST := Lib.hid hst
      have HALL := Lib.hid (fun h => all_take_false (p := fun d : De => !(F d.nm.toNat && G d d.nm.toNat)) hdm h)
      have HROW := Lib.hid hrow
      have HB := Lib.hid hb
      obtain ⟨v, hv⟩ : ∃ v : Nat, v = d.nm.toNat := ⟨_, rfl⟩
      rw [← hv] at en e8 HST HALL
      rw [← en] at g1
      have qv := hrow.cell (cells8_at F e8)
      have HG1 := Lib.hid g1
      have hbd := (Below.refl wr.heap.size wr).drew
      have HGX := Lib.hid (show Calls Try.prog 68 #[.slice (some ⟨b, o, none⟩) ds.length DC, .agg #[.int .i64 d.op, .int .i64 d.n, .slice A' d.k.len c']] wr.drew (FromPost (G d) wr.drew) by
        rw [HG.out d]
        exact l2From_any ds (some ⟨b, o, none⟩) DC d.op d.n d.k A' c' wr.drew (HD.out.up (hb.trans (hbd.mono hb.size))) ((h9.below (hbd.mono hb.size)).mono_ (Nat.le_refl _) (Nat.le_trans hb.size hbd.size)) hdz hks)
      have u1 := g1
      have HBZ := Lib.hid (World.block_lt_of_cell? _ _ g1)
      clear hst hall hrow hb e1 h9 hf g2 g3 hv en hdm hbd
      cases hU : F v with
      | false =>
        rw [hU] at qv
        have HF := Lib.hid (show (ds.take (j + 1)).all (fun d => !(F d.nm.toNat && G d d.nm.toNat)) = true by rw [HST.out, hU]; rfl)
        clear hU HST HALL HGX
        go_wp2_with fail
        go_region
        all_goals
          have HB3 := Lib.hid HB.out.drew
          have HR3 := Lib.hid HROW.out.drew
          clear HB HROW qv g1 g4 g5 g6 u1
          go_wp2
          go_roundw
          case rel => exact ⟨j + 1, hlt, by go_num, HF.out, HR3.out, HB3.out⟩
          case measure => simp [intOf]; omega
      | true =>
        rw [hU] at qv
        have i1 : (0 : Int) ≤ (v : Int) := by omega
        have i2 : (v : Int) < 8 := by omega
        have i3 : (0 : Int) ≤ (j : Int) := by omega
        have i4 : (j : Int) < (ds.length : Int) := by omega
        go_wp2_with fail
        have HSS := Lib.hid (fun w' (h : Below wr.drew.heap.size wr.drew w') => show w'.cell? ⟨b, o + j * 6, none⟩ = some (.int .i64 (v : Int)) ∧ w'.cell? ⟨b, o + j * 6 + 3, none⟩ = some (.int .i64 d.op) ∧ w'.cell? ⟨b, o + j * 6 + 4, none⟩ = some (.int .i64 d.n) ∧ w'.cell? ⟨b, o + j * 6 + 5, none⟩ = some (.slice A' d.k.len c') ∧ w'.cell? ⟨g, v, none⟩ = some (.bool true) from
          ⟨(h.cell (World.block_lt_of_cell? _ _ g1)).trans g1, (h.cell (World.block_lt_of_cell? _ _ g4)).trans g4, (h.cell (World.block_lt_of_cell? _ _ g5)).trans g5, (h.cell (World.block_lt_of_cell? _ _ g6)).trans g6, (h.cell (World.block_lt_of_cell? _ _ qv)).trans qv⟩)
        refine wp_region_held_drew (S := fun w' => w'.cell? ⟨b, o + j * 6, none⟩ = some (.int .i64 (v : Int)) ∧ w'.cell? ⟨b, o + j * 6 + 3, none⟩ = some (.int .i64 d.op) ∧ w'.cell? ⟨b, o + j * 6 + 4, none⟩ = some (.int .i64 d.n) ∧ w'.cell? ⟨b, o + j * 6 + 5, none⟩ = some (.slice A' d.k.len c') ∧ w'.cell? ⟨g, v, none⟩ = some (.bool true)) (by kernel_rfl) ⟨g1, g4, g5, g6, qv⟩ (fun hHeld => ?_)
        refine wpAnyH_take (i := 0) (v := ?v0) rfl (by kernel_rfl) (by kernel_rfl) (by kernel_rfl) (fun _ _ _ h => h) (Or.inl ⟨by rfl, ?y0⟩) (by assumption) ?r0
        case y0 => (intro w' hSw; (try dsimp only at hSw); go_simp; try with_reducible rfl)
        try simp only [Act.put, List.setIfInBounds_toArray, List.set_cons_zero, List.set_cons_succ, List.getElem_toArray, List.getElem_cons_zero]
        refine wpAnyH_take (i := 1) (v := ?v1) rfl (by kernel_rfl) (by kernel_rfl) (by kernel_rfl) (fun _ _ _ h => h) (Or.inl ⟨by rfl, ?y1⟩) (by assumption) ?r1
        case y1 => (intro w' hSw; (try dsimp only at hSw); go_simp; try with_reducible rfl)
        try simp only [Act.put, List.setIfInBounds_toArray, List.set_cons_zero, List.set_cons_succ, List.getElem_toArray, List.getElem_cons_succ, List.getElem_cons_zero]
        refine wpAnyH_take (i := 2) (v := ?v2) rfl (by kernel_rfl) (by kernel_rfl) (by kernel_rfl) (fun _ _ _ h => h) (Or.inl ⟨by rfl, ?y2⟩) (by assumption) ?r2
        case y2 => (intro w' hSw; (try dsimp only at hSw); go_simp; try with_reducible rfl)
        try simp only [Act.put, List.setIfInBounds_toArray, List.set_cons_zero, List.set_cons_succ, List.getElem_toArray, List.getElem_cons_succ, List.getElem_cons_zero]
        refine wpAnyH_take (i := 3) (v := ?v3) rfl (by kernel_rfl) (by kernel_rfl) (by kernel_rfl) (fun _ _ _ h => h) (Or.inl ⟨by rfl, ?y3⟩) (by assumption) ?r3
        case y3 => (intro w' hSw; (try dsimp only at hSw); go_simp; try with_reducible rfl)
        try simp only [Act.put, List.setIfInBounds_toArray, List.set_cons_zero, List.set_cons_succ, List.getElem_toArray, List.getElem_cons_succ, List.getElem_cons_zero]
        refine wpAnyH_take (i := 4) (v := ?v4) rfl (by kernel_rfl) (by kernel_rfl) (by kernel_rfl) (fun _ _ _ h => h) (Or.inl ⟨by rfl, ?y4⟩) (by assumption) ?r4
        case y4 => (intro w' hSw; (try dsimp only at hSw); go_simp; try with_reducible rfl)
        try simp only [Act.put, List.setIfInBounds_toArray, List.set_cons_zero, List.set_cons_succ, List.getElem_toArray, List.getElem_cons_succ, List.getElem_cons_zero]
        refine wpAnyH_take (i := 5) (v := ?v5) rfl (by kernel_rfl) (by kernel_rfl) (by kernel_rfl) (fun _ _ _ h => h) (Or.inl ⟨by rfl, ?y5⟩) (by assumption) ?r5
        case y5 => (intro w' hSw; (try dsimp only at hSw); go_simp; try with_reducible rfl)
        try simp only [Act.put, List.setIfInBounds_toArray, List.set_cons_zero, List.set_cons_succ, List.getElem_toArray, List.getElem_cons_succ, List.getElem_cons_zero]
        refine wpAnyH_take (i := 6) (v := ?v6) rfl (by kernel_rfl) (by kernel_rfl) (by kernel_rfl) (fun _ _ _ h => h) (Or.inl ⟨by rfl, ?y6⟩) (by assumption) ?r6
        case y6 => (intro w' hSw; (try dsimp only at hSw); go_simp; try with_reducible rfl)
        try simp only [Act.put, List.setIfInBounds_toArray, List.set_cons_zero, List.set_cons_succ, List.getElem_toArray, List.getElem_cons_succ, List.getElem_cons_zero]
        refine wpAnyH_take (i := 7) (v := ?v7) rfl (by kernel_rfl) (by kernel_rfl) (by kernel_rfl) (fun _ _ _ h => h) (Or.inl ⟨by rfl, ?y7⟩) (by assumption) ?r7
        case y7 => (intro w' hSw; (try dsimp only at hSw); go_simp; try with_reducible rfl)
        try simp only [Act.put, List.setIfInBounds_toArray, List.set_cons_zero, List.set_cons_succ, List.getElem_toArray, List.getElem_cons_succ, List.getElem_cons_zero]
        refine wpAnyH_take (i := 8) (v := ?v8) rfl (by kernel_rfl) (by kernel_rfl) (by kernel_rfl) (fun _ _ _ h => h) (Or.inl ⟨by rfl, ?y8⟩) (by assumption) ?r8
        case y8 => (intro w' hSw; (try dsimp only at hSw); go_simp; try with_reducible rfl)
        try simp only [Act.put, List.setIfInBounds_toArray, List.set_cons_zero, List.set_cons_succ, List.getElem_toArray, List.getElem_cons_succ, List.getElem_cons_zero]
        refine wpAnyH_take (i := 9) (v := ?v9) rfl (by kernel_rfl) (by kernel_rfl) (by kernel_rfl) (fun _ _ _ h => h) (Or.inl ⟨by rfl, ?y9⟩) (by assumption) ?r9
        case y9 => (intro w' hSw; (try dsimp only at hSw); go_simp; try with_reducible rfl)
        try simp only [Act.put, List.setIfInBounds_toArray, List.set_cons_zero, List.set_cons_succ, List.getElem_toArray, List.getElem_cons_succ, List.getElem_cons_zero]
        refine wpAnyH_take (i := 10) (v := ?v10) rfl (by kernel_rfl) (by kernel_rfl) (by kernel_rfl) (fun _ _ _ h => h) (Or.inl ⟨by rfl, ?y10⟩) (by assumption) ?r10
        case y10 => (intro w' hSw; (try dsimp only at hSw); go_simp; try with_reducible rfl)
        try simp only [Act.put, List.setIfInBounds_toArray, List.set_cons_zero, List.set_cons_succ, List.getElem_toArray, List.getElem_cons_succ, List.getElem_cons_zero]
        refine wpAnyH_take (i := 11) (v := ?v11) rfl (by kernel_rfl) (by kernel_rfl) (by kernel_rfl) (fun _ _ _ h => h) (Or.inl ⟨by rfl, ?y11⟩) (by assumption) ?r11
        case y11 => (intro w' hSw; (try dsimp only at hSw); go_simp; try with_reducible rfl)
        try simp only [Act.put, List.setIfInBounds_toArray, List.set_cons_zero, List.set_cons_succ, List.getElem_toArray, List.getElem_cons_succ, List.getElem_cons_zero]
        refine wpAnyH_take (i := 12) (v := ?v12) rfl (by kernel_rfl) (by kernel_rfl) (by kernel_rfl) (fun _ _ _ h => h) (Or.inl ⟨by rfl, ?y12⟩) (by assumption) ?r12
        case y12 => (intro w' hSw; (try dsimp only at hSw); go_simp; try with_reducible rfl)
        try simp only [Act.put, List.setIfInBounds_toArray, List.set_cons_zero, List.set_cons_succ, List.getElem_toArray, List.getElem_cons_succ, List.getElem_cons_zero]
        refine wpAnyH_take (i := 13) (v := ?v13) rfl (by kernel_rfl) (by kernel_rfl) (by kernel_rfl) (fun _ _ _ h => h) (Or.inl ⟨by rfl, ?y13⟩) (by assumption) ?r13
        case y13 => (intro w' hSw; (try dsimp only at hSw); go_simp; try with_reducible rfl)
        try simp only [Act.put, List.setIfInBounds_toArray, List.set_cons_zero, List.set_cons_succ, List.getElem_toArray, List.getElem_cons_succ, List.getElem_cons_zero]
        refine wpAnyH_take (i := 14) (v := ?v14) rfl (by kernel_rfl) (by kernel_rfl) (by kernel_rfl) (fun _ _ _ h => h) (Or.inl ⟨by rfl, ?y14⟩) (by assumption) ?r14
        case y14 => (intro w' hSw; (try dsimp only at hSw); go_simp; try with_reducible rfl)
        try simp only [Act.put, List.setIfInBounds_toArray, List.set_cons_zero, List.set_cons_succ, List.getElem_toArray, List.getElem_cons_succ, List.getElem_cons_zero]
        refine wpAnyH_take (i := 16) (v := ?v16) rfl (by kernel_rfl) (by kernel_rfl) (by kernel_rfl) (fun _ _ _ h => h) (Or.inl ⟨by rfl, ?y16⟩) (by assumption) ?r16
        case y16 => (intro w' hSw; (try dsimp only at hSw); go_simp; try with_reducible rfl)
        try simp only [Act.put, List.setIfInBounds_toArray, List.set_cons_zero, List.set_cons_succ, List.getElem_toArray, List.getElem_cons_succ, List.getElem_cons_zero]
        refine wpAnyH_take (i := 17) (v := ?v17) rfl (by kernel_rfl) (by kernel_rfl) (by kernel_rfl) (fun _ _ _ h => h) (Or.inl ⟨by rfl, ?y17⟩) (by assumption) ?r17
        case y17 => (intro w' hSw; (try dsimp only at hSw); go_simp; try with_reducible rfl)
        try simp only [Act.put, List.setIfInBounds_toArray, List.set_cons_zero, List.set_cons_succ, List.getElem_toArray, List.getElem_cons_succ, List.getElem_cons_zero]
        refine wpAnyH_take (i := 18) (v := ?v18) rfl (by kernel_rfl) (by kernel_rfl) (by kernel_rfl) (fun _ _ _ h => h) (Or.inl ⟨by rfl, ?y18⟩) (by assumption) ?r18
        case y18 => (intro w' hSw; (try dsimp only at hSw); go_simp; try with_reducible rfl)
        try simp only [Act.put, List.setIfInBounds_toArray, List.set_cons_zero, List.set_cons_succ, List.getElem_toArray, List.getElem_cons_succ, List.getElem_cons_zero]
        refine wpAnyH_take (i := 19) (v := ?v19) rfl (by kernel_rfl) (by kernel_rfl) (by kernel_rfl) (fun _ _ _ h => h) (Or.inl ⟨by rfl, ?y19⟩) (by assumption) ?r19
        case y19 => (intro w' hSw; (try dsimp only at hSw); go_simp; try with_reducible rfl)
        try simp only [Act.put, List.setIfInBounds_toArray, List.set_cons_zero, List.set_cons_succ, List.getElem_toArray, List.getElem_cons_succ, List.getElem_cons_zero]
        refine wpAnyH_take (i := 20) (v := ?v20) rfl (by kernel_rfl) (by kernel_rfl) (by kernel_rfl) (fun _ _ _ h => h) (Or.inl ⟨by rfl, ?y20⟩) (by assumption) ?r20
        case y20 => (intro w' hSw; (try dsimp only at hSw); go_simp; try with_reducible rfl)
        try simp only [Act.put, List.setIfInBounds_toArray, List.set_cons_zero, List.set_cons_succ, List.getElem_toArray, List.getElem_cons_succ, List.getElem_cons_zero]
        refine wpAnyH_ready (rs := [15]) (by kernel_rfl) (by simp) ?_
        refine AllReadyH.cons rfl (fun K hK => ?_) AllReadyH.nil
        go_simp
        with_reducible refine HGX.out.mono ?_
        rintro e w3 ⟨g3, rfl, hrow3, hg3, hb3⟩
        have t2 := hrow3.cell (cells8_at (G d) e8)
        have HB4 := Lib.hid hb3
        refine hK.out _ _ (HSS.out _ hb3) (fun hHeld3 => ?_)
        clear hK K hb3 hrow3
        try simp only [Act.put, List.setIfInBounds_toArray, List.set_cons_zero, List.set_cons_succ, List.getElem_toArray, List.getElem_cons_succ, List.getElem_cons_zero]
        refine wpAnyH_take (i := 21) (v := ?v21) rfl (by kernel_rfl) (by kernel_rfl) (by kernel_rfl) (fun _ _ _ h => h) (Or.inl ⟨by rfl, ?y21⟩) (by assumption) ?r21
        case y21 => (intro w' hSw; (try dsimp only at hSw); go_simp; try with_reducible rfl)
        try simp only [Act.put, List.setIfInBounds_toArray, List.set_cons_zero, List.set_cons_succ, List.getElem_toArray, List.getElem_cons_succ, List.getElem_cons_zero]
        refine wpAnyH_ready (rs := [22]) (by kernel_rfl) (by simp) ?_
        refine AllReadyH.cons rfl (fun K hK => ?_) AllReadyH.nil
        go_simp
        refine hK.out _ _ hHeld3 (fun hHeld4 => ?_)
        clear hK K
        try simp only [Act.put, List.setIfInBounds_toArray, List.set_cons_zero, List.set_cons_succ, List.getElem_toArray, List.getElem_cons_succ, List.getElem_cons_zero]
        refine wpAnyH_take (i := 23) (v := ?v23) rfl (by kernel_rfl) (by kernel_rfl) (by kernel_rfl) (fun _ _ _ h => h) (Or.inl ⟨by rfl, ?y23⟩) (by assumption) ?r23
        case y23 => (intro w' hSw; (try dsimp only at hSw); go_simp; try with_reducible rfl)
        try simp only [Act.put, List.setIfInBounds_toArray, List.set_cons_zero, List.set_cons_succ, List.getElem_toArray, List.getElem_cons_succ, List.getElem_cons_zero]
        refine wpAnyH_done (by kernel_rfl) ?_ _
        have HR3 := Lib.hid (HROW.out.drew.below HB4.out HROW.out.size)
        have HB3 := Lib.hid (HB.out.drew.trans (HB4.out.mono HB.out.drew.size))
        clear HB4 HROW HB qv g1 g4 g5 g6 u1 t2 hg3 HGX HSS hHeld hHeld3 hHeld4
        cases hout : G d v with
        | true =>
          have HF := Lib.hid (show endingS ds f = false by rw [HQ.out]; exact HALL.out (by rw [hU, hout]; rfl))
          clear hU hout HST HALL
          go_wp2
          go_ret
          exact ⟨ret_bool (by rw [HF.out]), HB3.out⟩
        | false =>
          have HF := Lib.hid (show (ds.take (j + 1)).all (fun d => !(F d.nm.toNat && G d d.nm.toNat)) = true by rw [HST.out, hU, hout]; rfl)
          clear hU hout HST HALL
          go_wp2
          go_roundw
          case rel => exact ⟨j + 1, hlt, by go_num, HF.out, HR3.out, HB3.out⟩
          case measure => simp [intOf]; omega
    · have e9 : j = ds.length := by omega
      subst e9
      rw [List.take_length] at hall
      have HF := Lib.hid (HQ.out.trans hall)
      clear hall
      go_wp2
      go_ret
      exact ⟨ret_bool (by rw [HF.out]), hb⟩
end Go.Proofs.Ytdconngmobpkoaa
