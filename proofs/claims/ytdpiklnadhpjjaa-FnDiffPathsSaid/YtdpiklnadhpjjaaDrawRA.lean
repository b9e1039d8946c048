/-
  spec.DrawReplaceAt (made by gen_drawra.py).
-/
import Derived.Test.YtdpiklnadhpjjaaDrawPA
import Derived.Test.YtdpiklnadhpjjaaCaseS
import Derived.Test.YtdpiklnadhpjjaaTreeP
import Derived.Test.YtdpiklnadhpjjaaTake
import Derived.Test.YtdpiklnadhpjjaaMutS
namespace Go.Proofs.Ytdpiklnadhpjjaa
open Go.RowKit Go.Shelf
set_option maxRecDepth 100000

def RAPost (w : World) (e : Ending) (w' : World) : Prop :=
  ∃ op n k X c zs A2 c2 op2 n2 k2 X2 cx2, e = .returned (.tuple #[.agg #[.int .i64 op, .int .i64 n, .slice X (Fo.len k) c], .slice A2 (List.length zs) c2, .agg #[.int .i64 op2, .int .i64 n2, .slice X2 (Fo.len k2) cx2]]) ∧ Drawn w' w.heap.size op n k X c ∧ LiesI w' w.heap.size w'.heap.size A2 zs ∧ zs.length ≤ c2 ∧ c2 ≤ maxLen ∧ zs.length ≤ 1048576 ∧ Drawn w' w.heap.size op2 n2 k2 X2 cx2 ∧ Below w.heap.size w w'

theorem ra_end {w V : World} {op n op2 n2 : Int} {k k2 : Fo} {X X2 A2 : Option Addr} {c cx2 c2 : Nat} {bl bl2 : List Nat} {zs : List Int} (ht : Tree V (w.heap.size + 2) (.slice X k.len c) k bl) (ht2 : Tree V (w.heap.size + 2) (.slice X2 k2.len cx2) k2 bl2)
    (hi : I64 op ∧ I64 n) (hi2 : I64 op2 ∧ I64 n2) (hs : k.size ≤ 500300) (hs2 : k2.size ≤ 500300) (hz : LiesI V (w.heap.size + 2) V.heap.size A2 zs) (h1 : zs.length ≤ c2) (h2 : c2 ≤ maxLen) (h3 : zs.length ≤ 1048576) (hb : Below w.heap.size w V) :
    RAPost w (.returned (.tuple #[.agg #[.int .i64 op, .int .i64 n, .slice X k.len c], .slice A2 zs.length c2, .agg #[.int .i64 op2, .int .i64 n2, .slice X2 k2.len cx2]]))
      ((((((V.setCell ⟨w.heap.size, 0, none⟩ (.int .i64 op)).setCell ⟨w.heap.size, 1, none⟩ (.int .i64 n)).setCell ⟨w.heap.size, 2, none⟩ (.slice X k.len c)).setCell ⟨w.heap.size + 1, 0, none⟩ (.int .i64 op2)).setCell ⟨w.heap.size + 1, 1, none⟩ (.int .i64 n2)).setCell ⟨w.heap.size + 1, 2, none⟩ (.slice X2 k2.len cx2)) := by
  have far : ∀ z, w.heap.size + 2 ≤ z → ((((((V.setCell ⟨w.heap.size, 0, none⟩ (.int .i64 op)).setCell ⟨w.heap.size, 1, none⟩ (.int .i64 n)).setCell ⟨w.heap.size, 2, none⟩ (.slice X k.len c)).setCell ⟨w.heap.size + 1, 0, none⟩ (.int .i64 op2)).setCell ⟨w.heap.size + 1, 1, none⟩ (.int .i64 n2)).setCell ⟨w.heap.size + 1, 2, none⟩ (.slice X2 k2.len cx2)).heap[z]? = V.heap[z]? := fun z hz => by
    have e1 : z ≠ w.heap.size := by omega
    have e2 : z ≠ w.heap.size + 1 := by omega
    rw [Below.heap_setCell _ _ _ z e2, Below.heap_setCell _ _ _ z e2, Below.heap_setCell _ _ _ z e2, Below.heap_setCell _ _ _ z e1, Below.heap_setCell _ _ _ z e1, Below.heap_setCell _ _ _ z e1]
  refine ⟨op, n, k, X, c, zs, A2, c2, op2, n2, k2, X2, cx2, rfl, ⟨bl, hi, (ht.keep fun z hz => far z (ht.lt z hz).1).lower (by omega), hs⟩, ?_, h1, h2, h3, ⟨bl2, hi2, (ht2.keep fun z hz => far z (ht2.lt z hz).1).lower (by omega), hs2⟩, ?_⟩
  · exact hz.keep (by omega) (by simp only [World.size_setCell]; exact Nat.le_refl _) fun p h1 _ => World.cell?_of_block (far p.block h1)
  · exact (((((hb.setCell (Nat.le_refl _) _).setCell (Nat.le_refl _) _).setCell (Nat.le_refl _) _).setCell (Nat.le_succ _) _).setCell (Nat.le_succ _) _).setCell (Nat.le_succ _) _

set_option maxHeartbeats 4000000 in
theorem drawReplaceAt_any (A : Option Addr) (bc0 : Nat) (bs : List Nat) (w : World) (hB : LiesY w 0 w.heap.size A bs) (hl : bs.length ≤ bc0) (hc : bc0 ≤ maxLen) :
    Calls Try.prog 22 #[.slice A bs.length bc0] w (RAPost w) := by
  obtain ⟨W2, hW2⟩ : ∃ W2, W2 = (w.alloc (Obj.cells #[.int .i64 0, .int .i64 0, .slice none 0 0] 25)).alloc (Obj.cells #[.int .i64 0, .int .i64 0, .slice none 0 0] 25) := ⟨_, rfl⟩
  have hb2 : Below w.heap.size w W2 := by rw [hW2]; exact ((Below.refl _ _).alloc (Nat.le_refl _) _).alloc (by simp) _
  have hx1 : Row W2 w.heap.size 25 #[.int .i64 0, .int .i64 0, .slice none 0 0] := by rw [hW2]; exact (Row.fresh _ _ _).alloc _
  have hx2 : Row W2 (w.heap.size + 1) 25 #[.int .i64 0, .int .i64 0, .slice none 0 0] := by
    rw [hW2]
    have := Row.fresh (w.alloc (Obj.cells #[.int .i64 0, .int .i64 0, .slice none 0 0] 25)) 25 #[.int .i64 0, .int .i64 0, .slice none 0 0]
    rw [World.size_alloc] at this
    exact this
  have hY2 : LiesY W2 0 W2.heap.size A bs := (hB.below hb2).keep (Nat.le_refl _) hb2.size fun _ _ _ => rfl
  have HC := Lib.hid (l9Case_any A bc0 bs W2 hY2 hl hc)
  have HY2 := Lib.hid hY2
  have HP1 := Lib.hid hx1
  have HP2 := Lib.hid hx2
  have HB2 := Lib.hid hb2
  have HWG2 := Lib.hid (show w.heap.size + 2 ≤ W2.heap.size from hx2.size)
  clear hb2 hx1 hx2 hB hY2
  go_enter Try.func22, Try.ntmps22
  go_upto_region 1 with fail
  rw [← hW2]
  clear hW2
  go_wp2_with fail
  refine HC.out.mono ?_
  rintro e w3 ⟨op, n, k, X, cx, zs, A2, c2, rfl, ⟨bl, hi, ht, hs⟩, hz, hm1, hm2, hm3, hb3⟩
  obtain ⟨W5, hW5⟩ : ∃ V, V = w3.alloc (Obj.cells #[.int .i64 op, .int .i64 n, .slice X k.len cx] 25) := ⟨_, rfl⟩
  have hb5 : Below w3.heap.size w3 W5 := by rw [hW5]; exact (Below.refl _ _).alloc (Nat.le_refl _) _
  have HE5 := Lib.hid (show Row W5 w3.heap.size 25 #[.int .i64 op, .int .i64 n, .slice X k.len cx] by rw [hW5]; exact Row.fresh _ _ _)
  have hb25 : Below W2.heap.size W2 W5 := hb3.trans (hb5.mono hb3.size)
  have HCO := Lib.hid (open_any A bc0 bs W5 ((HY2.out.below hb25).keep (Nat.le_refl _) hb25.size fun _ _ _ => rfl) hl hc)
  have HX1 := Lib.hid (HP1.out.below hb25 HP1.out.size)
  have HX2 := Lib.hid (HP2.out.below hb25 HP2.out.size)
  have HB5 := Lib.hid (HB2.out.trans (hb25.mono HB2.out.size))
  have HT := Lib.hid ((ht.over hb5).lower (base' := w.heap.size + 2) HWG2.out)
  have HLI := Lib.hid (show LiesI W5 (w.heap.size + 2) W5.heap.size A2 zs from (hz.below hb5).mono_ HWG2.out hb5.size)
  have HWG := Lib.hid (show w.heap.size + 2 ≤ W5.heap.size from Nat.le_trans HWG2.out hb25.size)
  have HE9 := Lib.hid (show w.heap.size + 2 ≤ w3.heap.size from Nat.le_trans HWG2.out hb3.size)
  have HI := Lib.hid hi
  have HS := Lib.hid hs
  clear hb3 hb5 hb25 ht hi hs hz HC HB2 HP1 HP2 HY2 HWG2
  go_upto_region 2 with fail
  rw [← hW5]
  clear hW5
  go_wp2_with fail
  refine HCO.out.mono ?_
  rintro e V0 ⟨bs2, hl2, rfl, hY0, hr0, hb0, hz0⟩
  obtain ⟨Q, hQ⟩ := lim_ex bs2 hl2 hY0.small
  have HOK1 := Lib.hid (Ok.first hQ)
  have HY0 := Lib.hid hY0
  have HB0 := Lib.hid hb0
  have HZ0 := Lib.hid hz0
  have HBV := Lib.hid (show ∀ V, Only W5.heap.size V0.heap.size V0 V → Below W5.heap.size W5 V from fun V h => HB0.out.trans ((h.mono (Nat.le_of_lt HZ0.out)).below (Nat.le_refl _)))
  have HYV := Lib.hid (show ∀ V, Only W5.heap.size V0.heap.size V0 V → LiesY V 0 W5.heap.size A bs2 from fun V h => HY0.out.below ((h.mono (Nat.le_of_lt HZ0.out)).below (Nat.le_refl _)))
  have HKK := Lib.hid (show ∀ V, Below W5.heap.size W5 V → (V.cell? ⟨w3.heap.size, 0, none⟩ = some (Value.int .i64 op) ∧ V.cell? ⟨w3.heap.size, 1, none⟩ = some (Value.int .i64 n) ∧ V.cell? ⟨w3.heap.size, 2, none⟩ = some (Value.slice X k.len cx)) from fun V hV => by
    have h := HE5.out.below hV HE5.out.size
    exact ⟨h.cell rfl, h.cell rfl, h.cell rfl⟩)
  have HFIN := Lib.hid (show ∀ (V : World), Below W5.heap.size W5 V → ∀ {q2 m2 : Int} {j2 : Fo} {Y2 : Option Addr} {f2 : Nat} {ml2 : List Nat}, Tree V (w.heap.size + 2) (.slice Y2 j2.len f2) j2 ml2 → (I64 q2 ∧ I64 m2) → j2.size ≤ 500300 →
      RAPost w (.returned (.tuple #[.agg #[.int .i64 op, .int .i64 n, .slice X k.len cx], .slice A2 zs.length c2, .agg #[.int .i64 q2, .int .i64 m2, .slice Y2 j2.len f2]])) ((((((V.setCell ⟨w.heap.size, 0, none⟩ (.int .i64 op)).setCell ⟨w.heap.size, 1, none⟩ (.int .i64 n)).setCell ⟨w.heap.size, 2, none⟩ (.slice X k.len cx)).setCell ⟨w.heap.size + 1, 0, none⟩ (.int .i64 q2)).setCell ⟨w.heap.size + 1, 1, none⟩ (.int .i64 m2)).setCell ⟨w.heap.size + 1, 2, none⟩ (.slice Y2 j2.len f2)) from fun V hV _ _ _ _ _ _ h1 h2 h3 =>
    ra_end (HT.out.over hV) h1 HI.out h2 HS.out h3 ((HLI.out.below hV).mono_ (Nat.le_refl _) hV.size) hm1 hm2 hm3 (HB5.out.trans (hV.mono HB5.out.size)))
  have HOD0 := Lib.hid (show Only W5.heap.size V0.heap.size V0 V0.drew from (Only.refl _ _ _).drew)
  have HRD0 := Lib.hid (show Rd V0.drew W5.heap.size A bc0 bs2 0 from hr0)
  have HZD0 := Lib.hid (show W5.heap.size < V0.drew.heap.size from hz0)
  have s0 := HKK.out _ (HBV.out _ HOD0.out)
  clear hY0 hr0 hb0 hz0 HCO
  go_upto_region 3 with fail
  refine wp_region_held_drew (S := fun w' => w'.cell? ⟨w3.heap.size, 0, none⟩ = some (Value.int .i64 op) ∧ w'.cell? ⟨w3.heap.size, 1, none⟩ = some (Value.int .i64 n) ∧ w'.cell? ⟨w3.heap.size, 2, none⟩ = some (Value.slice X k.len cx)) (by kernel_rfl) s0 (fun hHeld => ?_)
  refine takeW 0 (v := ?vx1_0) rfl (by kernel_rfl) (fun _ _ _ h => h) (by rfl) (by assumption) ?yx1_0 ?rx1_0
  case yx1_0 => (intro w' hSw; (try dsimp only at hSw); go_simp; try with_reducible rfl)
  try simp only [Act.put, List.setIfInBounds_toArray, List.set_cons_zero, List.set_cons_succ, List.getElem_toArray, List.getElem_cons_zero]
  refine takeW 1 (v := ?vx1_1) rfl (by kernel_rfl) (fun _ _ _ h => h) (by rfl) (by assumption) ?yx1_1 ?rx1_1
  case yx1_1 => (intro w' hSw; (try dsimp only at hSw); go_simp; try with_reducible rfl)
  try simp only [Act.put, List.setIfInBounds_toArray, List.set_cons_zero, List.set_cons_succ, List.getElem_toArray, List.getElem_cons_succ, List.getElem_cons_zero]
  refine takeW 2 (v := ?vx1_2) rfl (by kernel_rfl) (fun _ _ _ h => h) (by rfl) (by assumption) ?yx1_2 ?rx1_2
  case yx1_2 => (intro w' hSw; (try dsimp only at hSw); go_simp; try with_reducible rfl)
  try simp only [Act.put, List.setIfInBounds_toArray, List.set_cons_zero, List.set_cons_succ, List.getElem_toArray, List.getElem_cons_succ, List.getElem_cons_zero]
  refine takeW 3 (v := ?vx1_3) rfl (by kernel_rfl) (fun _ _ _ h => h) (by rfl) (by assumption) ?yx1_3 ?rx1_3
  case yx1_3 => (intro w' hSw; (try dsimp only at hSw); go_simp; try with_reducible rfl)
  try simp only [Act.put, List.setIfInBounds_toArray, List.set_cons_zero, List.set_cons_succ, List.getElem_toArray, List.getElem_cons_succ, List.getElem_cons_zero]
  refine takeW 6 (v := ?vx1_6) rfl (by kernel_rfl) (fun _ _ _ h => h) (by rfl) (by assumption) ?yx1_6 ?rx1_6
  case yx1_6 => (intro w' hSw; (try dsimp only at hSw); go_simp; try with_reducible rfl)
  try simp only [Act.put, List.setIfInBounds_toArray, List.set_cons_zero, List.set_cons_succ, List.getElem_toArray, List.getElem_cons_succ, List.getElem_cons_zero]
  refine wpAnyH_ready (rs := [4, 5, 7]) (by kernel_rfl) (by simp) ?_
  refine AllReadyH.cons rfl (fun K hK => ?_) (AllReadyH.cons rfl (fun K hK => ?_) (AllReadyH.cons rfl (fun K hK => ?_) AllReadyH.nil))
  · go_simp
    obtain ⟨V1, hV1⟩ : ∃ U, U = V0.drew.alloc (Obj.cells #[.int .i64 0, .int .i64 1] 3) := ⟨_, rfl⟩
    rw [show (V0.alloc (Obj.cells #[.int .i64 0, .int .i64 1] 3)).drew = V0.drew.alloc (Obj.cells #[.int .i64 0, .int .i64 1] 3) from rfl, ← hV1]
    have bV1 : Below V0.drew.heap.size V0.drew V1 := by rw [hV1]; exact (Below.refl _ _).alloc (Nat.le_refl _) _
    have L4V1 := Lib.hid (show LiesI V1 (W5.heap.size + 1) V1.heap.size (some ⟨V0.drew.heap.size, 0, none⟩) [0, 1] by rw [hV1]; exact lies_new V0.drew (W5.heap.size + 1) [0, 1] (by intro x hx; simp at hx; unfold I64; omega) HZD0.out)
    have HOV1 := Lib.hid (HOD0.out.trans ((Only.of_below (g := W5.heap.size) bV1).mono HOD0.out.size))
    have HRV1 := Lib.hid (Row.below HRD0.out bV1 HZD0.out)
    have HZV1 := Lib.hid (Nat.lt_of_lt_of_le HZD0.out bV1.size)
    have stV1 := HKK.out _ (HBV.out _ HOV1.out)
    clear hV1 bV1
    refine hK.out _ _ (stV1) (fun hHeldB1 => ?_)
    clear hK K
    try simp only [Act.put, List.setIfInBounds_toArray, List.set_cons_zero, List.set_cons_succ, List.getElem_toArray, List.getElem_cons_succ, List.getElem_cons_zero]
    refine wpAnyH_ready (rs := [5, 7]) (by kernel_rfl) (by simp) ?_
    refine AllReadyH.cons rfl (fun K hK => ?_) (AllReadyH.cons rfl (fun K hK => ?_) AllReadyH.nil)
    · go_simp
      refine (arity_any V1).mono ?_
      rintro e V2 ⟨rfl, hV2⟩
      have bV2 : Below V1.heap.size V1 V2 := by rw [hV2]; exact (Below.refl _ _).alloc (Nat.le_refl _) _
      have LAV2 := Lib.hid (show LiesI V2 (W5.heap.size + 1) V2.heap.size (some ⟨V1.heap.size, 0, none⟩) [1, 2, 0, 3, -1, -1, 1, 2] by rw [hV2]; exact lies_new V1 (W5.heap.size + 1) [1, 2, 0, 3, -1, -1, 1, 2] (by intro x hx; simp at hx; unfold I64; omega) HZV1.out)
      have L4V2 := Lib.hid ((L4V1.out.below bV2).mono_ (Nat.le_refl _) bV2.size)
      have HOV2 := Lib.hid (HOV1.out.trans ((Only.of_below (g := W5.heap.size) bV2).mono HOV1.out.size))
      have HRV2 := Lib.hid (Row.below HRV1.out bV2 HZV1.out)
      have HZV2 := Lib.hid (Nat.lt_of_lt_of_le HZV1.out bV2.size)
      have stV2 := HKK.out _ (HBV.out _ HOV2.out)
      clear hV2 bV2
      refine hK.out _ _ (stV2) (fun hHeldB2 => ?_)
      clear hK K
      try simp only [Act.put, List.setIfInBounds_toArray, List.set_cons_zero, List.set_cons_succ, List.getElem_toArray, List.getElem_cons_succ, List.getElem_cons_zero]
      refine wpAnyH_ready (rs := [7]) (by kernel_rfl) (by simp) ?_
      refine AllReadyH.cons rfl (fun K hK => ?_) AllReadyH.nil
      go_simp
      obtain ⟨V3, hV3⟩ : ∃ U, U = V2.alloc (Obj.cells #[.int .i64 2, .int .i64 3, .int .i64 1] 3) := ⟨_, rfl⟩
      rw [← hV3]
      have bV3 : Below V2.heap.size V2 V3 := by rw [hV3]; exact (Below.refl _ _).alloc (Nat.le_refl _) _
      have L7V3 := Lib.hid (show LiesI V3 (W5.heap.size + 1) V3.heap.size (some ⟨V2.heap.size, 0, none⟩) [2, 3, 1] by rw [hV3]; exact lies_new V2 (W5.heap.size + 1) [2, 3, 1] (by intro x hx; simp at hx; unfold I64; omega) HZV2.out)
      have L4V3 := Lib.hid ((L4V2.out.below bV3).mono_ (Nat.le_refl _) bV3.size)
      have LAV3 := Lib.hid ((LAV2.out.below bV3).mono_ (Nat.le_refl _) bV3.size)
      have HOV3 := Lib.hid (HOV2.out.trans ((Only.of_below (g := W5.heap.size) bV3).mono HOV2.out.size))
      have HRV3 := Lib.hid (Row.below HRV2.out bV3 HZV2.out)
      have HZV3 := Lib.hid (Nat.lt_of_lt_of_le HZV2.out bV3.size)
      have stV3 := HKK.out _ (HBV.out _ HOV3.out)
      clear hV3 bV3
      refine hK.out _ _ (stV3) (fun hHeldB3 => ?_)
      clear hK K
      try simp only [Act.put, List.setIfInBounds_toArray, List.set_cons_zero, List.set_cons_succ, List.getElem_toArray, List.getElem_cons_succ, List.getElem_cons_zero]
      refine wpAnyH_ready (rs := [8]) (by kernel_rfl) (by simp) ?_
      refine AllReadyH.cons rfl (fun K hK => ?_) AllReadyH.nil
      go_simp
      refine (num_v W5.heap.size W5.heap.size A bc0 bs2 0 (some ⟨V2.heap.size, 0, none⟩) 3 [2, 3, 1] V3 HRV3.out (HYV.out _ HOV3.out) (Nat.le_refl _) hl2 (HOK1.out.pb hQ) L7V3.out (by decide) (by decide)).mono ?_
      rintro e V4 ⟨y9, hym, -, rfl, hrV4, honV4⟩
      have hy := List.mem_of_getElem? hym
      simp at hy
      obtain ⟨d, rfl, hd1, hd5⟩ : ∃ d : Nat, y9 = (d : Int) ∧ 1 ≤ d ∧ d ≤ 3 := ⟨y9.toNat, by omega, by omega, by omega⟩
      have HCD := Lib.hid (show costD d ≤ 30 ∧ nodesD d ≤ 121 by rcases (show d = 1 ∨ d = 2 ∨ d = 3 by omega) with rfl | rfl | rfl <;> first | decide | omega)
      have L4V4 := Lib.hid (liesI_only L4V3.out honV4)
      have LAV4 := Lib.hid (liesI_only LAV3.out honV4)
      have HOV4 := Lib.hid (HOV3.out.trans (honV4.mono HOV3.out.size))
      have HRV4 := Lib.hid hrV4
      have HZV4 := Lib.hid (Nat.lt_of_lt_of_le HZV3.out honV4.size)
      have stV4 := HKK.out _ (HBV.out _ HOV4.out)
      clear hym hy hrV4 honV4
      refine hK.out _ _ (stV4) (fun hHeldB4 => ?_)
      clear hK K
      try simp only [Act.put, List.setIfInBounds_toArray, List.set_cons_zero, List.set_cons_succ, List.getElem_toArray, List.getElem_cons_succ, List.getElem_cons_zero]
      refine wpAnyH_ready (rs := [9]) (by kernel_rfl) (by simp) ?_
      refine AllReadyH.cons rfl (fun K hK => ?_) AllReadyH.nil
      go_simp
      have hcd := HCD.out
      refine (some_any d (by omega) W5.heap.size W5.heap.size A bc0 bs2 Q (0 + 1) (0 + 1) (some ⟨V0.drew.heap.size, 0, none⟩) 2 [0, 1] (some ⟨V1.heap.size, 0, none⟩) 8 [1, 2, 0, 3, -1, -1, 1, 2] V4 HRV4.out (HYV.out _ HOV4.out) (Nat.le_refl _) hl2 hQ (HOK1.out.next hQ (by decide)) (by omega) L4V4.out (by simp only [List.length_cons, List.length_nil]; omega) LAV4.out (by decide) (by intro x hx; simp at hx; omega)).mono ?_
      rintro e V5 ⟨o1, n1, k1, X1, c1, bl1, p1, rfl, hi1, ht1, hs1, hrV5, hok1, honV5⟩
      have HT1 := Lib.hid ht1
      have HI1 := Lib.hid hi1
      have HK1 := Lib.hid (show k1.size + 1 ≤ 121 from Nat.le_trans hs1 HCD.out.2)
      have HOK2 := Lib.hid (show Ok bs2 Q p1 (0 + 1 + 30) from hok1.mono (by have := HCD.out.1; omega))
      have HOV5 := Lib.hid (HOV4.out.trans (honV5.mono HOV4.out.size))
      have HRV5 := Lib.hid hrV5
      have HZV5 := Lib.hid (Nat.lt_of_lt_of_le HZV4.out honV5.size)
      have stV5 := HKK.out _ (HBV.out _ HOV5.out)
      clear hi1 ht1 hs1 hok1 hrV5 honV5 hcd
      refine hK.out _ _ (stV5) (fun hHeldB5 => ?_)
      clear hK K
      try simp only [Act.put, List.setIfInBounds_toArray, List.set_cons_zero, List.set_cons_succ, List.getElem_toArray, List.getElem_cons_succ, List.getElem_cons_zero]
      refine wpAnyH_ready (rs := [10]) (by kernel_rfl) (by simp) ?_
      refine AllReadyH.cons rfl (fun K hK => ?_) AllReadyH.nil
      go_simp
      refine (mut_any (Q - p1) W5.heap.size W5.heap.size A bc0 bs2 Q p1 (0 + 1 + 30) o1 n1 k1 X1 c1 V5 rfl HRV5.out (HYV.out _ HOV5.out) (Nat.le_refl _) hl2 hQ HOK2.out (by decide) (HT1.out.held).1 HI1.out (by have := HK1.out; omega)).mono ?_
      rintro e V6 ⟨q2, m2, j2, Y2, f2, ml2, r2, rfl, gi2, gt2, gs2, hrV6, gok2, honV6⟩
      have GI2 := Lib.hid gi2
      have GT2 := Lib.hid (gt2.lower (base' := w.heap.size + 2) (by have := HZV5.out; have := HWG.out; omega))
      have GK2 := Lib.hid (show j2.size ≤ 500300 by have := gok2.lt; have := hQ.1; have := HK1.out; omega)
      have HOV6 := Lib.hid (HOV5.out.trans (honV6.mono HOV5.out.size))
      have HRV6 := Lib.hid hrV6
      have HZV6 := Lib.hid (Nat.lt_of_lt_of_le HZV5.out honV6.size)
      have stV6 := HKK.out _ (HBV.out _ HOV6.out)
      have HBF := Lib.hid (HBV.out _ HOV6.out)
      have hX1 := HX1.out.below HBF.out (by have := HWG.out; omega)
      have f0 := hX1.free 0
      have f1 := hX1.free 1
      have f2' := hX1.free 2
      have d0 := hX1.cell (i := 0) rfl
      have d1' := hX1.cell (i := 1) rfl
      have d2' := hX1.cell (i := 2) rfl
      have HXF1 := Lib.hid hX1
      have HXF2 := Lib.hid (HX2.out.below HBF.out (by have := HWG.out; omega))
      have HEF := Lib.hid (HE5.out.below HBF.out HE5.out.size)
      clear hX1 gi2 gt2 gs2 gok2 hrV6 honV6
      refine hK.out _ _ (stV6) (fun hHeldB6 => ?_)
      clear hK K
      try simp only [Act.put, List.setIfInBounds_toArray, List.set_cons_zero, List.set_cons_succ, List.getElem_toArray, List.getElem_cons_succ, List.getElem_cons_zero]
      refine wpAnyH_ready (rs := [11]) (by kernel_rfl) (by simp) ?_
      refine AllReadyH.cons rfl (fun K hK => ?_) AllReadyH.nil
      go_simp
      have hw9 := HWG.out
      have he9 := HE9.out
      have r8 := (((HXF2.out.apart (p := ⟨w.heap.size, 0, none⟩) (by dsimp only; omega) (.int .i64 op)).apart (p := ⟨w.heap.size, 1, none⟩) (by dsimp only; omega) (.int .i64 n)).apart (p := ⟨w.heap.size, 2, none⟩) (by dsimp only; omega) (.slice X k.len cx))
      have re := (((HEF.out.apart (p := ⟨w.heap.size, 0, none⟩) (by dsimp only; omega) (.int .i64 op)).apart (p := ⟨w.heap.size, 1, none⟩) (by dsimp only; omega) (.int .i64 n)).apart (p := ⟨w.heap.size, 2, none⟩) (by dsimp only; omega) (.slice X k.len cx))
      have g0 := r8.free 0
      have g1 := r8.free 1
      have g2 := r8.free 2
      have i0 := r8.cell (i := 0) rfl
      have i1 := r8.cell (i := 1) rfl
      have i2 := r8.cell (i := 2) rfl
      have sz := (show _ ∧ _ ∧ _ from ⟨re.cell (i := 0) rfl, re.cell (i := 1) rfl, re.cell (i := 2) rfl⟩)
      have HR8 := Lib.hid r8
      have HRE := Lib.hid re
      clear r8 re
      refine hK.out _ _ (sz) (fun hHeldB7 => ?_)
      clear hK K
      try simp only [Act.put, List.setIfInBounds_toArray, List.set_cons_zero, List.set_cons_succ, List.getElem_toArray, List.getElem_cons_succ, List.getElem_cons_zero]
      refine takeW 12 (v := ?vx8_12) rfl (by kernel_rfl) (fun _ _ _ h => h) (by rfl) (by assumption) ?yx8_12 ?rx8_12
      case yx8_12 => (intro w' hSw; (try dsimp only at hSw); go_simp; try with_reducible rfl)
      try simp only [Act.put, List.setIfInBounds_toArray, List.set_cons_zero, List.set_cons_succ, List.getElem_toArray, List.getElem_cons_succ, List.getElem_cons_zero]
      refine wpAnyH_ready (rs := [13]) (by kernel_rfl) (by simp) ?_
      refine AllReadyH.cons rfl (fun K hK => ?_) AllReadyH.nil
      go_simp
      have re := (((HRE.out.apart (p := ⟨w.heap.size + 1, 0, none⟩) (by dsimp only; omega) (.int .i64 q2)).apart (p := ⟨w.heap.size + 1, 1, none⟩) (by dsimp only; omega) (.int .i64 m2)).apart (p := ⟨w.heap.size + 1, 2, none⟩) (by dsimp only; omega) (.slice Y2 j2.len f2))
      have sy := (show _ ∧ _ ∧ _ from ⟨re.cell (i := 0) rfl, re.cell (i := 1) rfl, re.cell (i := 2) rfl⟩)
      refine hK.out _ _ (sy) (fun hHeldB8 => ?_)
      clear hK K
      try simp only [Act.put, List.setIfInBounds_toArray, List.set_cons_zero, List.set_cons_succ, List.getElem_toArray, List.getElem_cons_succ, List.getElem_cons_zero]
      refine wpAnyH_done (by kernel_rfl) ?_ _
      clear sz sy re
      go_wp2_with fail
      have r7 := ((HXF1.out.put 0 (.int .i64 op)).put 1 (.int .i64 n)).put 2 (.slice X k.len cx)
      have r9 := (((r7.apart (p := ⟨w.heap.size + 1, 0, none⟩) (by dsimp only; omega) (.int .i64 q2)).apart (p := ⟨w.heap.size + 1, 1, none⟩) (by dsimp only; omega) (.int .i64 m2)).apart (p := ⟨w.heap.size + 1, 2, none⟩) (by dsimp only; omega) (.slice Y2 j2.len f2))
      have r6 := ((HR8.out.put 0 (.int .i64 q2)).put 1 (.int .i64 m2)).put 2 (.slice Y2 j2.len f2)
      have t0 := r9.cell (i := 0) rfl
      have t1 := r9.cell (i := 1) rfl
      have t2 := r9.cell (i := 2) rfl
      have t3 := r6.cell (i := 0) rfl
      have t4 := r6.cell (i := 1) rfl
      have t5 := r6.cell (i := 2) rfl
      refine bodyPost_ret (v := .tuple #[.agg #[.int .i64 op, .int .i64 n, .slice X k.len cx], .slice A2 zs.length c2, .agg #[.int .i64 q2, .int .i64 m2, .slice Y2 j2.len f2]]) ?_ rfl (by exact HFIN.out _ HBF.out GT2.out GI2.out GK2.out)
      simp [results, Try.f22, go_sem, t0, t1, t2, t3, t4, t5]
    · go_simp
      obtain ⟨V7, hV7⟩ : ∃ U, U = V1.alloc (Obj.cells #[.int .i64 2, .int .i64 3, .int .i64 1] 3) := ⟨_, rfl⟩
      rw [← hV7]
      have bV7 : Below V1.heap.size V1 V7 := by rw [hV7]; exact (Below.refl _ _).alloc (Nat.le_refl _) _
      have L7V7 := Lib.hid (show LiesI V7 (W5.heap.size + 1) V7.heap.size (some ⟨V1.heap.size, 0, none⟩) [2, 3, 1] by rw [hV7]; exact lies_new V1 (W5.heap.size + 1) [2, 3, 1] (by intro x hx; simp at hx; unfold I64; omega) HZV1.out)
      have L4V7 := Lib.hid ((L4V1.out.below bV7).mono_ (Nat.le_refl _) bV7.size)
      have HOV7 := Lib.hid (HOV1.out.trans ((Only.of_below (g := W5.heap.size) bV7).mono HOV1.out.size))
      have HRV7 := Lib.hid (Row.below HRV1.out bV7 HZV1.out)
      have HZV7 := Lib.hid (Nat.lt_of_lt_of_le HZV1.out bV7.size)
      have stV7 := HKK.out _ (HBV.out _ HOV7.out)
      clear hV7 bV7
      refine hK.out _ _ (stV7) (fun hHeldB9 => ?_)
      clear hK K
      try simp only [Act.put, List.setIfInBounds_toArray, List.set_cons_zero, List.set_cons_succ, List.getElem_toArray, List.getElem_cons_succ, List.getElem_cons_zero]
      refine wpAnyH_ready (rs := [5]) (by kernel_rfl) (by simp) ?_
      refine AllReadyH.cons rfl (fun K hK => ?_) AllReadyH.nil
      go_simp
      refine (arity_any V7).mono ?_
      rintro e V8 ⟨rfl, hV8⟩
      have bV8 : Below V7.heap.size V7 V8 := by rw [hV8]; exact (Below.refl _ _).alloc (Nat.le_refl _) _
      have LAV8 := Lib.hid (show LiesI V8 (W5.heap.size + 1) V8.heap.size (some ⟨V7.heap.size, 0, none⟩) [1, 2, 0, 3, -1, -1, 1, 2] by rw [hV8]; exact lies_new V7 (W5.heap.size + 1) [1, 2, 0, 3, -1, -1, 1, 2] (by intro x hx; simp at hx; unfold I64; omega) HZV7.out)
      have L4V8 := Lib.hid ((L4V7.out.below bV8).mono_ (Nat.le_refl _) bV8.size)
      have L7V8 := Lib.hid ((L7V7.out.below bV8).mono_ (Nat.le_refl _) bV8.size)
      have HOV8 := Lib.hid (HOV7.out.trans ((Only.of_below (g := W5.heap.size) bV8).mono HOV7.out.size))
      have HRV8 := Lib.hid (Row.below HRV7.out bV8 HZV7.out)
      have HZV8 := Lib.hid (Nat.lt_of_lt_of_le HZV7.out bV8.size)
      have stV8 := HKK.out _ (HBV.out _ HOV8.out)
      clear hV8 bV8
      refine hK.out _ _ (stV8) (fun hHeldB10 => ?_)
      clear hK K
      try simp only [Act.put, List.setIfInBounds_toArray, List.set_cons_zero, List.set_cons_succ, List.getElem_toArray, List.getElem_cons_succ, List.getElem_cons_zero]
      refine wpAnyH_ready (rs := [8]) (by kernel_rfl) (by simp) ?_
      refine AllReadyH.cons rfl (fun K hK => ?_) AllReadyH.nil
      go_simp
      refine (num_v W5.heap.size W5.heap.size A bc0 bs2 0 (some ⟨V1.heap.size, 0, none⟩) 3 [2, 3, 1] V8 HRV8.out (HYV.out _ HOV8.out) (Nat.le_refl _) hl2 (HOK1.out.pb hQ) L7V8.out (by decide) (by decide)).mono ?_
      rintro e V9 ⟨y9, hym, -, rfl, hrV9, honV9⟩
      have hy := List.mem_of_getElem? hym
      simp at hy
      obtain ⟨d, rfl, hd1, hd5⟩ : ∃ d : Nat, y9 = (d : Int) ∧ 1 ≤ d ∧ d ≤ 3 := ⟨y9.toNat, by omega, by omega, by omega⟩
      have HCD := Lib.hid (show costD d ≤ 30 ∧ nodesD d ≤ 121 by rcases (show d = 1 ∨ d = 2 ∨ d = 3 by omega) with rfl | rfl | rfl <;> first | decide | omega)
      have L4V9 := Lib.hid (liesI_only L4V8.out honV9)
      have LAV9 := Lib.hid (liesI_only LAV8.out honV9)
      have HOV9 := Lib.hid (HOV8.out.trans (honV9.mono HOV8.out.size))
      have HRV9 := Lib.hid hrV9
      have HZV9 := Lib.hid (Nat.lt_of_lt_of_le HZV8.out honV9.size)
      have stV9 := HKK.out _ (HBV.out _ HOV9.out)
      clear hym hy hrV9 honV9
      refine hK.out _ _ (stV9) (fun hHeldB11 => ?_)
      clear hK K
      try simp only [Act.put, List.setIfInBounds_toArray, List.set_cons_zero, List.set_cons_succ, List.getElem_toArray, List.getElem_cons_succ, List.getElem_cons_zero]
      refine wpAnyH_ready (rs := [9]) (by kernel_rfl) (by simp) ?_
      refine AllReadyH.cons rfl (fun K hK => ?_) AllReadyH.nil
      go_simp
      have hcd := HCD.out
      refine (some_any d (by omega) W5.heap.size W5.heap.size A bc0 bs2 Q (0 + 1) (0 + 1) (some ⟨V0.drew.heap.size, 0, none⟩) 2 [0, 1] (some ⟨V7.heap.size, 0, none⟩) 8 [1, 2, 0, 3, -1, -1, 1, 2] V9 HRV9.out (HYV.out _ HOV9.out) (Nat.le_refl _) hl2 hQ (HOK1.out.next hQ (by decide)) (by omega) L4V9.out (by simp only [List.length_cons, List.length_nil]; omega) LAV9.out (by decide) (by intro x hx; simp at hx; omega)).mono ?_
      rintro e V10 ⟨o1, n1, k1, X1, c1, bl1, p1, rfl, hi1, ht1, hs1, hrV10, hok1, honV10⟩
      have HT1 := Lib.hid ht1
      have HI1 := Lib.hid hi1
      have HK1 := Lib.hid (show k1.size + 1 ≤ 121 from Nat.le_trans hs1 HCD.out.2)
      have HOK2 := Lib.hid (show Ok bs2 Q p1 (0 + 1 + 30) from hok1.mono (by have := HCD.out.1; omega))
      have HOV10 := Lib.hid (HOV9.out.trans (honV10.mono HOV9.out.size))
      have HRV10 := Lib.hid hrV10
      have HZV10 := Lib.hid (Nat.lt_of_lt_of_le HZV9.out honV10.size)
      have stV10 := HKK.out _ (HBV.out _ HOV10.out)
      clear hi1 ht1 hs1 hok1 hrV10 honV10 hcd
      refine hK.out _ _ (stV10) (fun hHeldB12 => ?_)
      clear hK K
      try simp only [Act.put, List.setIfInBounds_toArray, List.set_cons_zero, List.set_cons_succ, List.getElem_toArray, List.getElem_cons_succ, List.getElem_cons_zero]
      refine wpAnyH_ready (rs := [10]) (by kernel_rfl) (by simp) ?_
      refine AllReadyH.cons rfl (fun K hK => ?_) AllReadyH.nil
      go_simp
      refine (mut_any (Q - p1) W5.heap.size W5.heap.size A bc0 bs2 Q p1 (0 + 1 + 30) o1 n1 k1 X1 c1 V10 rfl HRV10.out (HYV.out _ HOV10.out) (Nat.le_refl _) hl2 hQ HOK2.out (by decide) (HT1.out.held).1 HI1.out (by have := HK1.out; omega)).mono ?_
      rintro e V11 ⟨q2, m2, j2, Y2, f2, ml2, r2, rfl, gi2, gt2, gs2, hrV11, gok2, honV11⟩
      have GI2 := Lib.hid gi2
      have GT2 := Lib.hid (gt2.lower (base' := w.heap.size + 2) (by have := HZV10.out; have := HWG.out; omega))
      have GK2 := Lib.hid (show j2.size ≤ 500300 by have := gok2.lt; have := hQ.1; have := HK1.out; omega)
      have HOV11 := Lib.hid (HOV10.out.trans (honV11.mono HOV10.out.size))
      have HRV11 := Lib.hid hrV11
      have HZV11 := Lib.hid (Nat.lt_of_lt_of_le HZV10.out honV11.size)
      have stV11 := HKK.out _ (HBV.out _ HOV11.out)
      have HBF := Lib.hid (HBV.out _ HOV11.out)
      have hX1 := HX1.out.below HBF.out (by have := HWG.out; omega)
      have f0 := hX1.free 0
      have f1 := hX1.free 1
      have f2' := hX1.free 2
      have d0 := hX1.cell (i := 0) rfl
      have d1' := hX1.cell (i := 1) rfl
      have d2' := hX1.cell (i := 2) rfl
      have HXF1 := Lib.hid hX1
      have HXF2 := Lib.hid (HX2.out.below HBF.out (by have := HWG.out; omega))
      have HEF := Lib.hid (HE5.out.below HBF.out HE5.out.size)
      clear hX1 gi2 gt2 gs2 gok2 hrV11 honV11
      refine hK.out _ _ (stV11) (fun hHeldB13 => ?_)
      clear hK K
      try simp only [Act.put, List.setIfInBounds_toArray, List.set_cons_zero, List.set_cons_succ, List.getElem_toArray, List.getElem_cons_succ, List.getElem_cons_zero]
      refine wpAnyH_ready (rs := [11]) (by kernel_rfl) (by simp) ?_
      refine AllReadyH.cons rfl (fun K hK => ?_) AllReadyH.nil
      go_simp
      have hw9 := HWG.out
      have he9 := HE9.out
      have r8 := (((HXF2.out.apart (p := ⟨w.heap.size, 0, none⟩) (by dsimp only; omega) (.int .i64 op)).apart (p := ⟨w.heap.size, 1, none⟩) (by dsimp only; omega) (.int .i64 n)).apart (p := ⟨w.heap.size, 2, none⟩) (by dsimp only; omega) (.slice X k.len cx))
      have re := (((HEF.out.apart (p := ⟨w.heap.size, 0, none⟩) (by dsimp only; omega) (.int .i64 op)).apart (p := ⟨w.heap.size, 1, none⟩) (by dsimp only; omega) (.int .i64 n)).apart (p := ⟨w.heap.size, 2, none⟩) (by dsimp only; omega) (.slice X k.len cx))
      have g0 := r8.free 0
      have g1 := r8.free 1
      have g2 := r8.free 2
      have i0 := r8.cell (i := 0) rfl
      have i1 := r8.cell (i := 1) rfl
      have i2 := r8.cell (i := 2) rfl
      have sz := (show _ ∧ _ ∧ _ from ⟨re.cell (i := 0) rfl, re.cell (i := 1) rfl, re.cell (i := 2) rfl⟩)
      have HR8 := Lib.hid r8
      have HRE := Lib.hid re
      clear r8 re
      refine hK.out _ _ (sz) (fun hHeldB14 => ?_)
      clear hK K
      try simp only [Act.put, List.setIfInBounds_toArray, List.set_cons_zero, List.set_cons_succ, List.getElem_toArray, List.getElem_cons_succ, List.getElem_cons_zero]
      refine takeW 12 (v := ?vx15_12) rfl (by kernel_rfl) (fun _ _ _ h => h) (by rfl) (by assumption) ?yx15_12 ?rx15_12
      case yx15_12 => (intro w' hSw; (try dsimp only at hSw); go_simp; try with_reducible rfl)
      try simp only [Act.put, List.setIfInBounds_toArray, List.set_cons_zero, List.set_cons_succ, List.getElem_toArray, List.getElem_cons_succ, List.getElem_cons_zero]
      refine wpAnyH_ready (rs := [13]) (by kernel_rfl) (by simp) ?_
      refine AllReadyH.cons rfl (fun K hK => ?_) AllReadyH.nil
      go_simp
      have re := (((HRE.out.apart (p := ⟨w.heap.size + 1, 0, none⟩) (by dsimp only; omega) (.int .i64 q2)).apart (p := ⟨w.heap.size + 1, 1, none⟩) (by dsimp only; omega) (.int .i64 m2)).apart (p := ⟨w.heap.size + 1, 2, none⟩) (by dsimp only; omega) (.slice Y2 j2.len f2))
      have sy := (show _ ∧ _ ∧ _ from ⟨re.cell (i := 0) rfl, re.cell (i := 1) rfl, re.cell (i := 2) rfl⟩)
      refine hK.out _ _ (sy) (fun hHeldB15 => ?_)
      clear hK K
      try simp only [Act.put, List.setIfInBounds_toArray, List.set_cons_zero, List.set_cons_succ, List.getElem_toArray, List.getElem_cons_succ, List.getElem_cons_zero]
      refine wpAnyH_done (by kernel_rfl) ?_ _
      clear sz sy re
      go_wp2_with fail
      have r7 := ((HXF1.out.put 0 (.int .i64 op)).put 1 (.int .i64 n)).put 2 (.slice X k.len cx)
      have r9 := (((r7.apart (p := ⟨w.heap.size + 1, 0, none⟩) (by dsimp only; omega) (.int .i64 q2)).apart (p := ⟨w.heap.size + 1, 1, none⟩) (by dsimp only; omega) (.int .i64 m2)).apart (p := ⟨w.heap.size + 1, 2, none⟩) (by dsimp only; omega) (.slice Y2 j2.len f2))
      have r6 := ((HR8.out.put 0 (.int .i64 q2)).put 1 (.int .i64 m2)).put 2 (.slice Y2 j2.len f2)
      have t0 := r9.cell (i := 0) rfl
      have t1 := r9.cell (i := 1) rfl
      have t2 := r9.cell (i := 2) rfl
      have t3 := r6.cell (i := 0) rfl
      have t4 := r6.cell (i := 1) rfl
      have t5 := r6.cell (i := 2) rfl
      refine bodyPost_ret (v := .tuple #[.agg #[.int .i64 op, .int .i64 n, .slice X k.len cx], .slice A2 zs.length c2, .agg #[.int .i64 q2, .int .i64 m2, .slice Y2 j2.len f2]]) ?_ rfl (by exact HFIN.out _ HBF.out GT2.out GI2.out GK2.out)
      simp [results, Try.f22, go_sem, t0, t1, t2, t3, t4, t5]
  · go_simp
    refine (arity_any V0.drew).mono ?_
    rintro e V12 ⟨rfl, hV12⟩
    have bV12 : Below V0.drew.heap.size V0.drew V12 := by rw [hV12]; exact (Below.refl _ _).alloc (Nat.le_refl _) _
    have LAV12 := Lib.hid (show LiesI V12 (W5.heap.size + 1) V12.heap.size (some ⟨V0.drew.heap.size, 0, none⟩) [1, 2, 0, 3, -1, -1, 1, 2] by rw [hV12]; exact lies_new V0.drew (W5.heap.size + 1) [1, 2, 0, 3, -1, -1, 1, 2] (by intro x hx; simp at hx; unfold I64; omega) HZD0.out)
    have HOV12 := Lib.hid (HOD0.out.trans ((Only.of_below (g := W5.heap.size) bV12).mono HOD0.out.size))
    have HRV12 := Lib.hid (Row.below HRD0.out bV12 HZD0.out)
    have HZV12 := Lib.hid (Nat.lt_of_lt_of_le HZD0.out bV12.size)
    have stV12 := HKK.out _ (HBV.out _ HOV12.out)
    clear hV12 bV12
    refine hK.out _ _ (stV12) (fun hHeldB16 => ?_)
    clear hK K
    try simp only [Act.put, List.setIfInBounds_toArray, List.set_cons_zero, List.set_cons_succ, List.getElem_toArray, List.getElem_cons_succ, List.getElem_cons_zero]
    refine wpAnyH_ready (rs := [4, 7]) (by kernel_rfl) (by simp) ?_
    refine AllReadyH.cons rfl (fun K hK => ?_) (AllReadyH.cons rfl (fun K hK => ?_) AllReadyH.nil)
    · go_simp
      obtain ⟨V13, hV13⟩ : ∃ U, U = V12.alloc (Obj.cells #[.int .i64 0, .int .i64 1] 3) := ⟨_, rfl⟩
      rw [← hV13]
      have bV13 : Below V12.heap.size V12 V13 := by rw [hV13]; exact (Below.refl _ _).alloc (Nat.le_refl _) _
      have L4V13 := Lib.hid (show LiesI V13 (W5.heap.size + 1) V13.heap.size (some ⟨V12.heap.size, 0, none⟩) [0, 1] by rw [hV13]; exact lies_new V12 (W5.heap.size + 1) [0, 1] (by intro x hx; simp at hx; unfold I64; omega) HZV12.out)
      have LAV13 := Lib.hid ((LAV12.out.below bV13).mono_ (Nat.le_refl _) bV13.size)
      have HOV13 := Lib.hid (HOV12.out.trans ((Only.of_below (g := W5.heap.size) bV13).mono HOV12.out.size))
      have HRV13 := Lib.hid (Row.below HRV12.out bV13 HZV12.out)
      have HZV13 := Lib.hid (Nat.lt_of_lt_of_le HZV12.out bV13.size)
      have stV13 := HKK.out _ (HBV.out _ HOV13.out)
      clear hV13 bV13
      refine hK.out _ _ (stV13) (fun hHeldB17 => ?_)
      clear hK K
      try simp only [Act.put, List.setIfInBounds_toArray, List.set_cons_zero, List.set_cons_succ, List.getElem_toArray, List.getElem_cons_succ, List.getElem_cons_zero]
      refine wpAnyH_ready (rs := [7]) (by kernel_rfl) (by simp) ?_
      refine AllReadyH.cons rfl (fun K hK => ?_) AllReadyH.nil
      go_simp
      obtain ⟨V14, hV14⟩ : ∃ U, U = V13.alloc (Obj.cells #[.int .i64 2, .int .i64 3, .int .i64 1] 3) := ⟨_, rfl⟩
      rw [← hV14]
      have bV14 : Below V13.heap.size V13 V14 := by rw [hV14]; exact (Below.refl _ _).alloc (Nat.le_refl _) _
      have L7V14 := Lib.hid (show LiesI V14 (W5.heap.size + 1) V14.heap.size (some ⟨V13.heap.size, 0, none⟩) [2, 3, 1] by rw [hV14]; exact lies_new V13 (W5.heap.size + 1) [2, 3, 1] (by intro x hx; simp at hx; unfold I64; omega) HZV13.out)
      have LAV14 := Lib.hid ((LAV13.out.below bV14).mono_ (Nat.le_refl _) bV14.size)
      have L4V14 := Lib.hid ((L4V13.out.below bV14).mono_ (Nat.le_refl _) bV14.size)
      have HOV14 := Lib.hid (HOV13.out.trans ((Only.of_below (g := W5.heap.size) bV14).mono HOV13.out.size))
      have HRV14 := Lib.hid (Row.below HRV13.out bV14 HZV13.out)
      have HZV14 := Lib.hid (Nat.lt_of_lt_of_le HZV13.out bV14.size)
      have stV14 := HKK.out _ (HBV.out _ HOV14.out)
      clear hV14 bV14
      refine hK.out _ _ (stV14) (fun hHeldB18 => ?_)
      clear hK K
      try simp only [Act.put, List.setIfInBounds_toArray, List.set_cons_zero, List.set_cons_succ, List.getElem_toArray, List.getElem_cons_succ, List.getElem_cons_zero]
      refine wpAnyH_ready (rs := [8]) (by kernel_rfl) (by simp) ?_
      refine AllReadyH.cons rfl (fun K hK => ?_) AllReadyH.nil
      go_simp
      refine (num_v W5.heap.size W5.heap.size A bc0 bs2 0 (some ⟨V13.heap.size, 0, none⟩) 3 [2, 3, 1] V14 HRV14.out (HYV.out _ HOV14.out) (Nat.le_refl _) hl2 (HOK1.out.pb hQ) L7V14.out (by decide) (by decide)).mono ?_
      rintro e V15 ⟨y9, hym, -, rfl, hrV15, honV15⟩
      have hy := List.mem_of_getElem? hym
      simp at hy
      obtain ⟨d, rfl, hd1, hd5⟩ : ∃ d : Nat, y9 = (d : Int) ∧ 1 ≤ d ∧ d ≤ 3 := ⟨y9.toNat, by omega, by omega, by omega⟩
      have HCD := Lib.hid (show costD d ≤ 30 ∧ nodesD d ≤ 121 by rcases (show d = 1 ∨ d = 2 ∨ d = 3 by omega) with rfl | rfl | rfl <;> first | decide | omega)
      have LAV15 := Lib.hid (liesI_only LAV14.out honV15)
      have L4V15 := Lib.hid (liesI_only L4V14.out honV15)
      have HOV15 := Lib.hid (HOV14.out.trans (honV15.mono HOV14.out.size))
      have HRV15 := Lib.hid hrV15
      have HZV15 := Lib.hid (Nat.lt_of_lt_of_le HZV14.out honV15.size)
      have stV15 := HKK.out _ (HBV.out _ HOV15.out)
      clear hym hy hrV15 honV15
      refine hK.out _ _ (stV15) (fun hHeldB19 => ?_)
      clear hK K
      try simp only [Act.put, List.setIfInBounds_toArray, List.set_cons_zero, List.set_cons_succ, List.getElem_toArray, List.getElem_cons_succ, List.getElem_cons_zero]
      refine wpAnyH_ready (rs := [9]) (by kernel_rfl) (by simp) ?_
      refine AllReadyH.cons rfl (fun K hK => ?_) AllReadyH.nil
      go_simp
      have hcd := HCD.out
      refine (some_any d (by omega) W5.heap.size W5.heap.size A bc0 bs2 Q (0 + 1) (0 + 1) (some ⟨V12.heap.size, 0, none⟩) 2 [0, 1] (some ⟨V0.drew.heap.size, 0, none⟩) 8 [1, 2, 0, 3, -1, -1, 1, 2] V15 HRV15.out (HYV.out _ HOV15.out) (Nat.le_refl _) hl2 hQ (HOK1.out.next hQ (by decide)) (by omega) L4V15.out (by simp only [List.length_cons, List.length_nil]; omega) LAV15.out (by decide) (by intro x hx; simp at hx; omega)).mono ?_
      rintro e V16 ⟨o1, n1, k1, X1, c1, bl1, p1, rfl, hi1, ht1, hs1, hrV16, hok1, honV16⟩
      have HT1 := Lib.hid ht1
      have HI1 := Lib.hid hi1
      have HK1 := Lib.hid (show k1.size + 1 ≤ 121 from Nat.le_trans hs1 HCD.out.2)
      have HOK2 := Lib.hid (show Ok bs2 Q p1 (0 + 1 + 30) from hok1.mono (by have := HCD.out.1; omega))
      have HOV16 := Lib.hid (HOV15.out.trans (honV16.mono HOV15.out.size))
      have HRV16 := Lib.hid hrV16
      have HZV16 := Lib.hid (Nat.lt_of_lt_of_le HZV15.out honV16.size)
      have stV16 := HKK.out _ (HBV.out _ HOV16.out)
      clear hi1 ht1 hs1 hok1 hrV16 honV16 hcd
      refine hK.out _ _ (stV16) (fun hHeldB20 => ?_)
      clear hK K
      try simp only [Act.put, List.setIfInBounds_toArray, List.set_cons_zero, List.set_cons_succ, List.getElem_toArray, List.getElem_cons_succ, List.getElem_cons_zero]
      refine wpAnyH_ready (rs := [10]) (by kernel_rfl) (by simp) ?_
      refine AllReadyH.cons rfl (fun K hK => ?_) AllReadyH.nil
      go_simp
      refine (mut_any (Q - p1) W5.heap.size W5.heap.size A bc0 bs2 Q p1 (0 + 1 + 30) o1 n1 k1 X1 c1 V16 rfl HRV16.out (HYV.out _ HOV16.out) (Nat.le_refl _) hl2 hQ HOK2.out (by decide) (HT1.out.held).1 HI1.out (by have := HK1.out; omega)).mono ?_
      rintro e V17 ⟨q2, m2, j2, Y2, f2, ml2, r2, rfl, gi2, gt2, gs2, hrV17, gok2, honV17⟩
      have GI2 := Lib.hid gi2
      have GT2 := Lib.hid (gt2.lower (base' := w.heap.size + 2) (by have := HZV16.out; have := HWG.out; omega))
      have GK2 := Lib.hid (show j2.size ≤ 500300 by have := gok2.lt; have := hQ.1; have := HK1.out; omega)
      have HOV17 := Lib.hid (HOV16.out.trans (honV17.mono HOV16.out.size))
      have HRV17 := Lib.hid hrV17
      have HZV17 := Lib.hid (Nat.lt_of_lt_of_le HZV16.out honV17.size)
      have stV17 := HKK.out _ (HBV.out _ HOV17.out)
      have HBF := Lib.hid (HBV.out _ HOV17.out)
      have hX1 := HX1.out.below HBF.out (by have := HWG.out; omega)
      have f0 := hX1.free 0
      have f1 := hX1.free 1
      have f2' := hX1.free 2
      have d0 := hX1.cell (i := 0) rfl
      have d1' := hX1.cell (i := 1) rfl
      have d2' := hX1.cell (i := 2) rfl
      have HXF1 := Lib.hid hX1
      have HXF2 := Lib.hid (HX2.out.below HBF.out (by have := HWG.out; omega))
      have HEF := Lib.hid (HE5.out.below HBF.out HE5.out.size)
      clear hX1 gi2 gt2 gs2 gok2 hrV17 honV17
      refine hK.out _ _ (stV17) (fun hHeldB21 => ?_)
      clear hK K
      try simp only [Act.put, List.setIfInBounds_toArray, List.set_cons_zero, List.set_cons_succ, List.getElem_toArray, List.getElem_cons_succ, List.getElem_cons_zero]
      refine wpAnyH_ready (rs := [11]) (by kernel_rfl) (by simp) ?_
      refine AllReadyH.cons rfl (fun K hK => ?_) AllReadyH.nil
      go_simp
      have hw9 := HWG.out
      have he9 := HE9.out
      have r8 := (((HXF2.out.apart (p := ⟨w.heap.size, 0, none⟩) (by dsimp only; omega) (.int .i64 op)).apart (p := ⟨w.heap.size, 1, none⟩) (by dsimp only; omega) (.int .i64 n)).apart (p := ⟨w.heap.size, 2, none⟩) (by dsimp only; omega) (.slice X k.len cx))
      have re := (((HEF.out.apart (p := ⟨w.heap.size, 0, none⟩) (by dsimp only; omega) (.int .i64 op)).apart (p := ⟨w.heap.size, 1, none⟩) (by dsimp only; omega) (.int .i64 n)).apart (p := ⟨w.heap.size, 2, none⟩) (by dsimp only; omega) (.slice X k.len cx))
      have g0 := r8.free 0
      have g1 := r8.free 1
      have g2 := r8.free 2
      have i0 := r8.cell (i := 0) rfl
      have i1 := r8.cell (i := 1) rfl
      have i2 := r8.cell (i := 2) rfl
      have sz := (show _ ∧ _ ∧ _ from ⟨re.cell (i := 0) rfl, re.cell (i := 1) rfl, re.cell (i := 2) rfl⟩)
      have HR8 := Lib.hid r8
      have HRE := Lib.hid re
      clear r8 re
      refine hK.out _ _ (sz) (fun hHeldB22 => ?_)
      clear hK K
      try simp only [Act.put, List.setIfInBounds_toArray, List.set_cons_zero, List.set_cons_succ, List.getElem_toArray, List.getElem_cons_succ, List.getElem_cons_zero]
      refine takeW 12 (v := ?vx23_12) rfl (by kernel_rfl) (fun _ _ _ h => h) (by rfl) (by assumption) ?yx23_12 ?rx23_12
      case yx23_12 => (intro w' hSw; (try dsimp only at hSw); go_simp; try with_reducible rfl)
      try simp only [Act.put, List.setIfInBounds_toArray, List.set_cons_zero, List.set_cons_succ, List.getElem_toArray, List.getElem_cons_succ, List.getElem_cons_zero]
      refine wpAnyH_ready (rs := [13]) (by kernel_rfl) (by simp) ?_
      refine AllReadyH.cons rfl (fun K hK => ?_) AllReadyH.nil
      go_simp
      have re := (((HRE.out.apart (p := ⟨w.heap.size + 1, 0, none⟩) (by dsimp only; omega) (.int .i64 q2)).apart (p := ⟨w.heap.size + 1, 1, none⟩) (by dsimp only; omega) (.int .i64 m2)).apart (p := ⟨w.heap.size + 1, 2, none⟩) (by dsimp only; omega) (.slice Y2 j2.len f2))
      have sy := (show _ ∧ _ ∧ _ from ⟨re.cell (i := 0) rfl, re.cell (i := 1) rfl, re.cell (i := 2) rfl⟩)
      refine hK.out _ _ (sy) (fun hHeldB23 => ?_)
      clear hK K
      try simp only [Act.put, List.setIfInBounds_toArray, List.set_cons_zero, List.set_cons_succ, List.getElem_toArray, List.getElem_cons_succ, List.getElem_cons_zero]
      refine wpAnyH_done (by kernel_rfl) ?_ _
      clear sz sy re
      go_wp2_with fail
      have r7 := ((HXF1.out.put 0 (.int .i64 op)).put 1 (.int .i64 n)).put 2 (.slice X k.len cx)
      have r9 := (((r7.apart (p := ⟨w.heap.size + 1, 0, none⟩) (by dsimp only; omega) (.int .i64 q2)).apart (p := ⟨w.heap.size + 1, 1, none⟩) (by dsimp only; omega) (.int .i64 m2)).apart (p := ⟨w.heap.size + 1, 2, none⟩) (by dsimp only; omega) (.slice Y2 j2.len f2))
      have r6 := ((HR8.out.put 0 (.int .i64 q2)).put 1 (.int .i64 m2)).put 2 (.slice Y2 j2.len f2)
      have t0 := r9.cell (i := 0) rfl
      have t1 := r9.cell (i := 1) rfl
      have t2 := r9.cell (i := 2) rfl
      have t3 := r6.cell (i := 0) rfl
      have t4 := r6.cell (i := 1) rfl
      have t5 := r6.cell (i := 2) rfl
      refine bodyPost_ret (v := .tuple #[.agg #[.int .i64 op, .int .i64 n, .slice X k.len cx], .slice A2 zs.length c2, .agg #[.int .i64 q2, .int .i64 m2, .slice Y2 j2.len f2]]) ?_ rfl (by exact HFIN.out _ HBF.out GT2.out GI2.out GK2.out)
      simp [results, Try.f22, go_sem, t0, t1, t2, t3, t4, t5]
    · go_simp
      obtain ⟨V18, hV18⟩ : ∃ U, U = V12.alloc (Obj.cells #[.int .i64 2, .int .i64 3, .int .i64 1] 3) := ⟨_, rfl⟩
      rw [← hV18]
      have bV18 : Below V12.heap.size V12 V18 := by rw [hV18]; exact (Below.refl _ _).alloc (Nat.le_refl _) _
      have L7V18 := Lib.hid (show LiesI V18 (W5.heap.size + 1) V18.heap.size (some ⟨V12.heap.size, 0, none⟩) [2, 3, 1] by rw [hV18]; exact lies_new V12 (W5.heap.size + 1) [2, 3, 1] (by intro x hx; simp at hx; unfold I64; omega) HZV12.out)
      have LAV18 := Lib.hid ((LAV12.out.below bV18).mono_ (Nat.le_refl _) bV18.size)
      have HOV18 := Lib.hid (HOV12.out.trans ((Only.of_below (g := W5.heap.size) bV18).mono HOV12.out.size))
      have HRV18 := Lib.hid (Row.below HRV12.out bV18 HZV12.out)
      have HZV18 := Lib.hid (Nat.lt_of_lt_of_le HZV12.out bV18.size)
      have stV18 := HKK.out _ (HBV.out _ HOV18.out)
      clear hV18 bV18
      refine hK.out _ _ (stV18) (fun hHeldB24 => ?_)
      clear hK K
      try simp only [Act.put, List.setIfInBounds_toArray, List.set_cons_zero, List.set_cons_succ, List.getElem_toArray, List.getElem_cons_succ, List.getElem_cons_zero]
      refine wpAnyH_ready (rs := [4, 8]) (by kernel_rfl) (by simp) ?_
      refine AllReadyH.cons rfl (fun K hK => ?_) (AllReadyH.cons rfl (fun K hK => ?_) AllReadyH.nil)
      · go_simp
        obtain ⟨V19, hV19⟩ : ∃ U, U = V18.alloc (Obj.cells #[.int .i64 0, .int .i64 1] 3) := ⟨_, rfl⟩
        rw [← hV19]
        have bV19 : Below V18.heap.size V18 V19 := by rw [hV19]; exact (Below.refl _ _).alloc (Nat.le_refl _) _
        have L4V19 := Lib.hid (show LiesI V19 (W5.heap.size + 1) V19.heap.size (some ⟨V18.heap.size, 0, none⟩) [0, 1] by rw [hV19]; exact lies_new V18 (W5.heap.size + 1) [0, 1] (by intro x hx; simp at hx; unfold I64; omega) HZV18.out)
        have LAV19 := Lib.hid ((LAV18.out.below bV19).mono_ (Nat.le_refl _) bV19.size)
        have L7V19 := Lib.hid ((L7V18.out.below bV19).mono_ (Nat.le_refl _) bV19.size)
        have HOV19 := Lib.hid (HOV18.out.trans ((Only.of_below (g := W5.heap.size) bV19).mono HOV18.out.size))
        have HRV19 := Lib.hid (Row.below HRV18.out bV19 HZV18.out)
        have HZV19 := Lib.hid (Nat.lt_of_lt_of_le HZV18.out bV19.size)
        have stV19 := HKK.out _ (HBV.out _ HOV19.out)
        clear hV19 bV19
        refine hK.out _ _ (stV19) (fun hHeldB25 => ?_)
        clear hK K
        try simp only [Act.put, List.setIfInBounds_toArray, List.set_cons_zero, List.set_cons_succ, List.getElem_toArray, List.getElem_cons_succ, List.getElem_cons_zero]
        refine wpAnyH_ready (rs := [8]) (by kernel_rfl) (by simp) ?_
        refine AllReadyH.cons rfl (fun K hK => ?_) AllReadyH.nil
        go_simp
        refine (num_v W5.heap.size W5.heap.size A bc0 bs2 0 (some ⟨V12.heap.size, 0, none⟩) 3 [2, 3, 1] V19 HRV19.out (HYV.out _ HOV19.out) (Nat.le_refl _) hl2 (HOK1.out.pb hQ) L7V19.out (by decide) (by decide)).mono ?_
        rintro e V20 ⟨y9, hym, -, rfl, hrV20, honV20⟩
        have hy := List.mem_of_getElem? hym
        simp at hy
        obtain ⟨d, rfl, hd1, hd5⟩ : ∃ d : Nat, y9 = (d : Int) ∧ 1 ≤ d ∧ d ≤ 3 := ⟨y9.toNat, by omega, by omega, by omega⟩
        have HCD := Lib.hid (show costD d ≤ 30 ∧ nodesD d ≤ 121 by rcases (show d = 1 ∨ d = 2 ∨ d = 3 by omega) with rfl | rfl | rfl <;> first | decide | omega)
        have LAV20 := Lib.hid (liesI_only LAV19.out honV20)
        have L4V20 := Lib.hid (liesI_only L4V19.out honV20)
        have HOV20 := Lib.hid (HOV19.out.trans (honV20.mono HOV19.out.size))
        have HRV20 := Lib.hid hrV20
        have HZV20 := Lib.hid (Nat.lt_of_lt_of_le HZV19.out honV20.size)
        have stV20 := HKK.out _ (HBV.out _ HOV20.out)
        clear hym hy hrV20 honV20
        refine hK.out _ _ (stV20) (fun hHeldB26 => ?_)
        clear hK K
        try simp only [Act.put, List.setIfInBounds_toArray, List.set_cons_zero, List.set_cons_succ, List.getElem_toArray, List.getElem_cons_succ, List.getElem_cons_zero]
        refine wpAnyH_ready (rs := [9]) (by kernel_rfl) (by simp) ?_
        refine AllReadyH.cons rfl (fun K hK => ?_) AllReadyH.nil
        go_simp
        have hcd := HCD.out
        refine (some_any d (by omega) W5.heap.size W5.heap.size A bc0 bs2 Q (0 + 1) (0 + 1) (some ⟨V18.heap.size, 0, none⟩) 2 [0, 1] (some ⟨V0.drew.heap.size, 0, none⟩) 8 [1, 2, 0, 3, -1, -1, 1, 2] V20 HRV20.out (HYV.out _ HOV20.out) (Nat.le_refl _) hl2 hQ (HOK1.out.next hQ (by decide)) (by omega) L4V20.out (by simp only [List.length_cons, List.length_nil]; omega) LAV20.out (by decide) (by intro x hx; simp at hx; omega)).mono ?_
        rintro e V21 ⟨o1, n1, k1, X1, c1, bl1, p1, rfl, hi1, ht1, hs1, hrV21, hok1, honV21⟩
        have HT1 := Lib.hid ht1
        have HI1 := Lib.hid hi1
        have HK1 := Lib.hid (show k1.size + 1 ≤ 121 from Nat.le_trans hs1 HCD.out.2)
        have HOK2 := Lib.hid (show Ok bs2 Q p1 (0 + 1 + 30) from hok1.mono (by have := HCD.out.1; omega))
        have HOV21 := Lib.hid (HOV20.out.trans (honV21.mono HOV20.out.size))
        have HRV21 := Lib.hid hrV21
        have HZV21 := Lib.hid (Nat.lt_of_lt_of_le HZV20.out honV21.size)
        have stV21 := HKK.out _ (HBV.out _ HOV21.out)
        clear hi1 ht1 hs1 hok1 hrV21 honV21 hcd
        refine hK.out _ _ (stV21) (fun hHeldB27 => ?_)
        clear hK K
        try simp only [Act.put, List.setIfInBounds_toArray, List.set_cons_zero, List.set_cons_succ, List.getElem_toArray, List.getElem_cons_succ, List.getElem_cons_zero]
        refine wpAnyH_ready (rs := [10]) (by kernel_rfl) (by simp) ?_
        refine AllReadyH.cons rfl (fun K hK => ?_) AllReadyH.nil
        go_simp
        refine (mut_any (Q - p1) W5.heap.size W5.heap.size A bc0 bs2 Q p1 (0 + 1 + 30) o1 n1 k1 X1 c1 V21 rfl HRV21.out (HYV.out _ HOV21.out) (Nat.le_refl _) hl2 hQ HOK2.out (by decide) (HT1.out.held).1 HI1.out (by have := HK1.out; omega)).mono ?_
        rintro e V22 ⟨q2, m2, j2, Y2, f2, ml2, r2, rfl, gi2, gt2, gs2, hrV22, gok2, honV22⟩
        have GI2 := Lib.hid gi2
        have GT2 := Lib.hid (gt2.lower (base' := w.heap.size + 2) (by have := HZV21.out; have := HWG.out; omega))
        have GK2 := Lib.hid (show j2.size ≤ 500300 by have := gok2.lt; have := hQ.1; have := HK1.out; omega)
        have HOV22 := Lib.hid (HOV21.out.trans (honV22.mono HOV21.out.size))
        have HRV22 := Lib.hid hrV22
        have HZV22 := Lib.hid (Nat.lt_of_lt_of_le HZV21.out honV22.size)
        have stV22 := HKK.out _ (HBV.out _ HOV22.out)
        have HBF := Lib.hid (HBV.out _ HOV22.out)
        have hX1 := HX1.out.below HBF.out (by have := HWG.out; omega)
        have f0 := hX1.free 0
        have f1 := hX1.free 1
        have f2' := hX1.free 2
        have d0 := hX1.cell (i := 0) rfl
        have d1' := hX1.cell (i := 1) rfl
        have d2' := hX1.cell (i := 2) rfl
        have HXF1 := Lib.hid hX1
        have HXF2 := Lib.hid (HX2.out.below HBF.out (by have := HWG.out; omega))
        have HEF := Lib.hid (HE5.out.below HBF.out HE5.out.size)
        clear hX1 gi2 gt2 gs2 gok2 hrV22 honV22
        refine hK.out _ _ (stV22) (fun hHeldB28 => ?_)
        clear hK K
        try simp only [Act.put, List.setIfInBounds_toArray, List.set_cons_zero, List.set_cons_succ, List.getElem_toArray, List.getElem_cons_succ, List.getElem_cons_zero]
        refine wpAnyH_ready (rs := [11]) (by kernel_rfl) (by simp) ?_
        refine AllReadyH.cons rfl (fun K hK => ?_) AllReadyH.nil
        go_simp
        have hw9 := HWG.out
        have he9 := HE9.out
        have r8 := (((HXF2.out.apart (p := ⟨w.heap.size, 0, none⟩) (by dsimp only; omega) (.int .i64 op)).apart (p := ⟨w.heap.size, 1, none⟩) (by dsimp only; omega) (.int .i64 n)).apart (p := ⟨w.heap.size, 2, none⟩) (by dsimp only; omega) (.slice X k.len cx))
        have re := (((HEF.out.apart (p := ⟨w.heap.size, 0, none⟩) (by dsimp only; omega) (.int .i64 op)).apart (p := ⟨w.heap.size, 1, none⟩) (by dsimp only; omega) (.int .i64 n)).apart (p := ⟨w.heap.size, 2, none⟩) (by dsimp only; omega) (.slice X k.len cx))
        have g0 := r8.free 0
        have g1 := r8.free 1
        have g2 := r8.free 2
        have i0 := r8.cell (i := 0) rfl
        have i1 := r8.cell (i := 1) rfl
        have i2 := r8.cell (i := 2) rfl
        have sz := (show _ ∧ _ ∧ _ from ⟨re.cell (i := 0) rfl, re.cell (i := 1) rfl, re.cell (i := 2) rfl⟩)
        have HR8 := Lib.hid r8
        have HRE := Lib.hid re
        clear r8 re
        refine hK.out _ _ (sz) (fun hHeldB29 => ?_)
        clear hK K
        try simp only [Act.put, List.setIfInBounds_toArray, List.set_cons_zero, List.set_cons_succ, List.getElem_toArray, List.getElem_cons_succ, List.getElem_cons_zero]
        refine takeW 12 (v := ?vx30_12) rfl (by kernel_rfl) (fun _ _ _ h => h) (by rfl) (by assumption) ?yx30_12 ?rx30_12
        case yx30_12 => (intro w' hSw; (try dsimp only at hSw); go_simp; try with_reducible rfl)
        try simp only [Act.put, List.setIfInBounds_toArray, List.set_cons_zero, List.set_cons_succ, List.getElem_toArray, List.getElem_cons_succ, List.getElem_cons_zero]
        refine wpAnyH_ready (rs := [13]) (by kernel_rfl) (by simp) ?_
        refine AllReadyH.cons rfl (fun K hK => ?_) AllReadyH.nil
        go_simp
        have re := (((HRE.out.apart (p := ⟨w.heap.size + 1, 0, none⟩) (by dsimp only; omega) (.int .i64 q2)).apart (p := ⟨w.heap.size + 1, 1, none⟩) (by dsimp only; omega) (.int .i64 m2)).apart (p := ⟨w.heap.size + 1, 2, none⟩) (by dsimp only; omega) (.slice Y2 j2.len f2))
        have sy := (show _ ∧ _ ∧ _ from ⟨re.cell (i := 0) rfl, re.cell (i := 1) rfl, re.cell (i := 2) rfl⟩)
        refine hK.out _ _ (sy) (fun hHeldB30 => ?_)
        clear hK K
        try simp only [Act.put, List.setIfInBounds_toArray, List.set_cons_zero, List.set_cons_succ, List.getElem_toArray, List.getElem_cons_succ, List.getElem_cons_zero]
        refine wpAnyH_done (by kernel_rfl) ?_ _
        clear sz sy re
        go_wp2_with fail
        have r7 := ((HXF1.out.put 0 (.int .i64 op)).put 1 (.int .i64 n)).put 2 (.slice X k.len cx)
        have r9 := (((r7.apart (p := ⟨w.heap.size + 1, 0, none⟩) (by dsimp only; omega) (.int .i64 q2)).apart (p := ⟨w.heap.size + 1, 1, none⟩) (by dsimp only; omega) (.int .i64 m2)).apart (p := ⟨w.heap.size + 1, 2, none⟩) (by dsimp only; omega) (.slice Y2 j2.len f2))
        have r6 := ((HR8.out.put 0 (.int .i64 q2)).put 1 (.int .i64 m2)).put 2 (.slice Y2 j2.len f2)
        have t0 := r9.cell (i := 0) rfl
        have t1 := r9.cell (i := 1) rfl
        have t2 := r9.cell (i := 2) rfl
        have t3 := r6.cell (i := 0) rfl
        have t4 := r6.cell (i := 1) rfl
        have t5 := r6.cell (i := 2) rfl
        refine bodyPost_ret (v := .tuple #[.agg #[.int .i64 op, .int .i64 n, .slice X k.len cx], .slice A2 zs.length c2, .agg #[.int .i64 q2, .int .i64 m2, .slice Y2 j2.len f2]]) ?_ rfl (by exact HFIN.out _ HBF.out GT2.out GI2.out GK2.out)
        simp [results, Try.f22, go_sem, t0, t1, t2, t3, t4, t5]
      · go_simp
        refine (num_v W5.heap.size W5.heap.size A bc0 bs2 0 (some ⟨V12.heap.size, 0, none⟩) 3 [2, 3, 1] V18 HRV18.out (HYV.out _ HOV18.out) (Nat.le_refl _) hl2 (HOK1.out.pb hQ) L7V18.out (by decide) (by decide)).mono ?_
        rintro e V23 ⟨y9, hym, -, rfl, hrV23, honV23⟩
        have hy := List.mem_of_getElem? hym
        simp at hy
        obtain ⟨d, rfl, hd1, hd5⟩ : ∃ d : Nat, y9 = (d : Int) ∧ 1 ≤ d ∧ d ≤ 3 := ⟨y9.toNat, by omega, by omega, by omega⟩
        have HCD := Lib.hid (show costD d ≤ 30 ∧ nodesD d ≤ 121 by rcases (show d = 1 ∨ d = 2 ∨ d = 3 by omega) with rfl | rfl | rfl <;> first | decide | omega)
        have LAV23 := Lib.hid (liesI_only LAV18.out honV23)
        have HOV23 := Lib.hid (HOV18.out.trans (honV23.mono HOV18.out.size))
        have HRV23 := Lib.hid hrV23
        have HZV23 := Lib.hid (Nat.lt_of_lt_of_le HZV18.out honV23.size)
        have stV23 := HKK.out _ (HBV.out _ HOV23.out)
        clear hym hy hrV23 honV23
        refine hK.out _ _ (stV23) (fun hHeldB31 => ?_)
        clear hK K
        try simp only [Act.put, List.setIfInBounds_toArray, List.set_cons_zero, List.set_cons_succ, List.getElem_toArray, List.getElem_cons_succ, List.getElem_cons_zero]
        refine wpAnyH_ready (rs := [4]) (by kernel_rfl) (by simp) ?_
        refine AllReadyH.cons rfl (fun K hK => ?_) AllReadyH.nil
        go_simp
        obtain ⟨V24, hV24⟩ : ∃ U, U = V23.alloc (Obj.cells #[.int .i64 0, .int .i64 1] 3) := ⟨_, rfl⟩
        rw [← hV24]
        have bV24 : Below V23.heap.size V23 V24 := by rw [hV24]; exact (Below.refl _ _).alloc (Nat.le_refl _) _
        have L4V24 := Lib.hid (show LiesI V24 (W5.heap.size + 1) V24.heap.size (some ⟨V23.heap.size, 0, none⟩) [0, 1] by rw [hV24]; exact lies_new V23 (W5.heap.size + 1) [0, 1] (by intro x hx; simp at hx; unfold I64; omega) HZV23.out)
        have LAV24 := Lib.hid ((LAV23.out.below bV24).mono_ (Nat.le_refl _) bV24.size)
        have HOV24 := Lib.hid (HOV23.out.trans ((Only.of_below (g := W5.heap.size) bV24).mono HOV23.out.size))
        have HRV24 := Lib.hid (Row.below HRV23.out bV24 HZV23.out)
        have HZV24 := Lib.hid (Nat.lt_of_lt_of_le HZV23.out bV24.size)
        have stV24 := HKK.out _ (HBV.out _ HOV24.out)
        clear hV24 bV24
        refine hK.out _ _ (stV24) (fun hHeldB32 => ?_)
        clear hK K
        try simp only [Act.put, List.setIfInBounds_toArray, List.set_cons_zero, List.set_cons_succ, List.getElem_toArray, List.getElem_cons_succ, List.getElem_cons_zero]
        refine wpAnyH_ready (rs := [9]) (by kernel_rfl) (by simp) ?_
        refine AllReadyH.cons rfl (fun K hK => ?_) AllReadyH.nil
        go_simp
        have hcd := HCD.out
        refine (some_any d (by omega) W5.heap.size W5.heap.size A bc0 bs2 Q (0 + 1) (0 + 1) (some ⟨V23.heap.size, 0, none⟩) 2 [0, 1] (some ⟨V0.drew.heap.size, 0, none⟩) 8 [1, 2, 0, 3, -1, -1, 1, 2] V24 HRV24.out (HYV.out _ HOV24.out) (Nat.le_refl _) hl2 hQ (HOK1.out.next hQ (by decide)) (by omega) L4V24.out (by simp only [List.length_cons, List.length_nil]; omega) LAV24.out (by decide) (by intro x hx; simp at hx; omega)).mono ?_
        rintro e V25 ⟨o1, n1, k1, X1, c1, bl1, p1, rfl, hi1, ht1, hs1, hrV25, hok1, honV25⟩
        have HT1 := Lib.hid ht1
        have HI1 := Lib.hid hi1
        have HK1 := Lib.hid (show k1.size + 1 ≤ 121 from Nat.le_trans hs1 HCD.out.2)
        have HOK2 := Lib.hid (show Ok bs2 Q p1 (0 + 1 + 30) from hok1.mono (by have := HCD.out.1; omega))
        have HOV25 := Lib.hid (HOV24.out.trans (honV25.mono HOV24.out.size))
        have HRV25 := Lib.hid hrV25
        have HZV25 := Lib.hid (Nat.lt_of_lt_of_le HZV24.out honV25.size)
        have stV25 := HKK.out _ (HBV.out _ HOV25.out)
        clear hi1 ht1 hs1 hok1 hrV25 honV25 hcd
        refine hK.out _ _ (stV25) (fun hHeldB33 => ?_)
        clear hK K
        try simp only [Act.put, List.setIfInBounds_toArray, List.set_cons_zero, List.set_cons_succ, List.getElem_toArray, List.getElem_cons_succ, List.getElem_cons_zero]
        refine wpAnyH_ready (rs := [10]) (by kernel_rfl) (by simp) ?_
        refine AllReadyH.cons rfl (fun K hK => ?_) AllReadyH.nil
        go_simp
        refine (mut_any (Q - p1) W5.heap.size W5.heap.size A bc0 bs2 Q p1 (0 + 1 + 30) o1 n1 k1 X1 c1 V25 rfl HRV25.out (HYV.out _ HOV25.out) (Nat.le_refl _) hl2 hQ HOK2.out (by decide) (HT1.out.held).1 HI1.out (by have := HK1.out; omega)).mono ?_
        rintro e V26 ⟨q2, m2, j2, Y2, f2, ml2, r2, rfl, gi2, gt2, gs2, hrV26, gok2, honV26⟩
        have GI2 := Lib.hid gi2
        have GT2 := Lib.hid (gt2.lower (base' := w.heap.size + 2) (by have := HZV25.out; have := HWG.out; omega))
        have GK2 := Lib.hid (show j2.size ≤ 500300 by have := gok2.lt; have := hQ.1; have := HK1.out; omega)
        have HOV26 := Lib.hid (HOV25.out.trans (honV26.mono HOV25.out.size))
        have HRV26 := Lib.hid hrV26
        have HZV26 := Lib.hid (Nat.lt_of_lt_of_le HZV25.out honV26.size)
        have stV26 := HKK.out _ (HBV.out _ HOV26.out)
        have HBF := Lib.hid (HBV.out _ HOV26.out)
        have hX1 := HX1.out.below HBF.out (by have := HWG.out; omega)
        have f0 := hX1.free 0
        have f1 := hX1.free 1
        have f2' := hX1.free 2
        have d0 := hX1.cell (i := 0) rfl
        have d1' := hX1.cell (i := 1) rfl
        have d2' := hX1.cell (i := 2) rfl
        have HXF1 := Lib.hid hX1
        have HXF2 := Lib.hid (HX2.out.below HBF.out (by have := HWG.out; omega))
        have HEF := Lib.hid (HE5.out.below HBF.out HE5.out.size)
        clear hX1 gi2 gt2 gs2 gok2 hrV26 honV26
        refine hK.out _ _ (stV26) (fun hHeldB34 => ?_)
        clear hK K
        try simp only [Act.put, List.setIfInBounds_toArray, List.set_cons_zero, List.set_cons_succ, List.getElem_toArray, List.getElem_cons_succ, List.getElem_cons_zero]
        refine wpAnyH_ready (rs := [11]) (by kernel_rfl) (by simp) ?_
        refine AllReadyH.cons rfl (fun K hK => ?_) AllReadyH.nil
        go_simp
        have hw9 := HWG.out
        have he9 := HE9.out
        have r8 := (((HXF2.out.apart (p := ⟨w.heap.size, 0, none⟩) (by dsimp only; omega) (.int .i64 op)).apart (p := ⟨w.heap.size, 1, none⟩) (by dsimp only; omega) (.int .i64 n)).apart (p := ⟨w.heap.size, 2, none⟩) (by dsimp only; omega) (.slice X k.len cx))
        have re := (((HEF.out.apart (p := ⟨w.heap.size, 0, none⟩) (by dsimp only; omega) (.int .i64 op)).apart (p := ⟨w.heap.size, 1, none⟩) (by dsimp only; omega) (.int .i64 n)).apart (p := ⟨w.heap.size, 2, none⟩) (by dsimp only; omega) (.slice X k.len cx))
        have g0 := r8.free 0
        have g1 := r8.free 1
        have g2 := r8.free 2
        have i0 := r8.cell (i := 0) rfl
        have i1 := r8.cell (i := 1) rfl
        have i2 := r8.cell (i := 2) rfl
        have sz := (show _ ∧ _ ∧ _ from ⟨re.cell (i := 0) rfl, re.cell (i := 1) rfl, re.cell (i := 2) rfl⟩)
        have HR8 := Lib.hid r8
        have HRE := Lib.hid re
        clear r8 re
        refine hK.out _ _ (sz) (fun hHeldB35 => ?_)
        clear hK K
        try simp only [Act.put, List.setIfInBounds_toArray, List.set_cons_zero, List.set_cons_succ, List.getElem_toArray, List.getElem_cons_succ, List.getElem_cons_zero]
        refine takeW 12 (v := ?vx36_12) rfl (by kernel_rfl) (fun _ _ _ h => h) (by rfl) (by assumption) ?yx36_12 ?rx36_12
        case yx36_12 => (intro w' hSw; (try dsimp only at hSw); go_simp; try with_reducible rfl)
        try simp only [Act.put, List.setIfInBounds_toArray, List.set_cons_zero, List.set_cons_succ, List.getElem_toArray, List.getElem_cons_succ, List.getElem_cons_zero]
        refine wpAnyH_ready (rs := [13]) (by kernel_rfl) (by simp) ?_
        refine AllReadyH.cons rfl (fun K hK => ?_) AllReadyH.nil
        go_simp
        have re := (((HRE.out.apart (p := ⟨w.heap.size + 1, 0, none⟩) (by dsimp only; omega) (.int .i64 q2)).apart (p := ⟨w.heap.size + 1, 1, none⟩) (by dsimp only; omega) (.int .i64 m2)).apart (p := ⟨w.heap.size + 1, 2, none⟩) (by dsimp only; omega) (.slice Y2 j2.len f2))
        have sy := (show _ ∧ _ ∧ _ from ⟨re.cell (i := 0) rfl, re.cell (i := 1) rfl, re.cell (i := 2) rfl⟩)
        refine hK.out _ _ (sy) (fun hHeldB36 => ?_)
        clear hK K
        try simp only [Act.put, List.setIfInBounds_toArray, List.set_cons_zero, List.set_cons_succ, List.getElem_toArray, List.getElem_cons_succ, List.getElem_cons_zero]
        refine wpAnyH_done (by kernel_rfl) ?_ _
        clear sz sy re
        go_wp2_with fail
        have r7 := ((HXF1.out.put 0 (.int .i64 op)).put 1 (.int .i64 n)).put 2 (.slice X k.len cx)
        have r9 := (((r7.apart (p := ⟨w.heap.size + 1, 0, none⟩) (by dsimp only; omega) (.int .i64 q2)).apart (p := ⟨w.heap.size + 1, 1, none⟩) (by dsimp only; omega) (.int .i64 m2)).apart (p := ⟨w.heap.size + 1, 2, none⟩) (by dsimp only; omega) (.slice Y2 j2.len f2))
        have r6 := ((HR8.out.put 0 (.int .i64 q2)).put 1 (.int .i64 m2)).put 2 (.slice Y2 j2.len f2)
        have t0 := r9.cell (i := 0) rfl
        have t1 := r9.cell (i := 1) rfl
        have t2 := r9.cell (i := 2) rfl
        have t3 := r6.cell (i := 0) rfl
        have t4 := r6.cell (i := 1) rfl
        have t5 := r6.cell (i := 2) rfl
        refine bodyPost_ret (v := .tuple #[.agg #[.int .i64 op, .int .i64 n, .slice X k.len cx], .slice A2 zs.length c2, .agg #[.int .i64 q2, .int .i64 m2, .slice Y2 j2.len f2]]) ?_ rfl (by exact HFIN.out _ HBF.out GT2.out GI2.out GK2.out)
        simp [results, Try.f22, go_sem, t0, t1, t2, t3, t4, t5]
  · go_simp
    obtain ⟨V27, hV27⟩ : ∃ U, U = V0.drew.alloc (Obj.cells #[.int .i64 2, .int .i64 3, .int .i64 1] 3) := ⟨_, rfl⟩
    rw [show (V0.alloc (Obj.cells #[.int .i64 2, .int .i64 3, .int .i64 1] 3)).drew = V0.drew.alloc (Obj.cells #[.int .i64 2, .int .i64 3, .int .i64 1] 3) from rfl, ← hV27]
    have bV27 : Below V0.drew.heap.size V0.drew V27 := by rw [hV27]; exact (Below.refl _ _).alloc (Nat.le_refl _) _
    have L7V27 := Lib.hid (show LiesI V27 (W5.heap.size + 1) V27.heap.size (some ⟨V0.drew.heap.size, 0, none⟩) [2, 3, 1] by rw [hV27]; exact lies_new V0.drew (W5.heap.size + 1) [2, 3, 1] (by intro x hx; simp at hx; unfold I64; omega) HZD0.out)
    have HOV27 := Lib.hid (HOD0.out.trans ((Only.of_below (g := W5.heap.size) bV27).mono HOD0.out.size))
    have HRV27 := Lib.hid (Row.below HRD0.out bV27 HZD0.out)
    have HZV27 := Lib.hid (Nat.lt_of_lt_of_le HZD0.out bV27.size)
    have stV27 := HKK.out _ (HBV.out _ HOV27.out)
    clear hV27 bV27
    refine hK.out _ _ (stV27) (fun hHeldB37 => ?_)
    clear hK K
    try simp only [Act.put, List.setIfInBounds_toArray, List.set_cons_zero, List.set_cons_succ, List.getElem_toArray, List.getElem_cons_succ, List.getElem_cons_zero]
    refine wpAnyH_ready (rs := [4, 5]) (by kernel_rfl) (by simp) ?_
    refine AllReadyH.cons rfl (fun K hK => ?_) (AllReadyH.cons rfl (fun K hK => ?_) AllReadyH.nil)
    · go_simp
      obtain ⟨V28, hV28⟩ : ∃ U, U = V27.alloc (Obj.cells #[.int .i64 0, .int .i64 1] 3) := ⟨_, rfl⟩
      rw [← hV28]
      have bV28 : Below V27.heap.size V27 V28 := by rw [hV28]; exact (Below.refl _ _).alloc (Nat.le_refl _) _
      have L4V28 := Lib.hid (show LiesI V28 (W5.heap.size + 1) V28.heap.size (some ⟨V27.heap.size, 0, none⟩) [0, 1] by rw [hV28]; exact lies_new V27 (W5.heap.size + 1) [0, 1] (by intro x hx; simp at hx; unfold I64; omega) HZV27.out)
      have L7V28 := Lib.hid ((L7V27.out.below bV28).mono_ (Nat.le_refl _) bV28.size)
      have HOV28 := Lib.hid (HOV27.out.trans ((Only.of_below (g := W5.heap.size) bV28).mono HOV27.out.size))
      have HRV28 := Lib.hid (Row.below HRV27.out bV28 HZV27.out)
      have HZV28 := Lib.hid (Nat.lt_of_lt_of_le HZV27.out bV28.size)
      have stV28 := HKK.out _ (HBV.out _ HOV28.out)
      clear hV28 bV28
      refine hK.out _ _ (stV28) (fun hHeldB38 => ?_)
      clear hK K
      try simp only [Act.put, List.setIfInBounds_toArray, List.set_cons_zero, List.set_cons_succ, List.getElem_toArray, List.getElem_cons_succ, List.getElem_cons_zero]
      refine wpAnyH_ready (rs := [5]) (by kernel_rfl) (by simp) ?_
      refine AllReadyH.cons rfl (fun K hK => ?_) AllReadyH.nil
      go_simp
      refine (arity_any V28).mono ?_
      rintro e V29 ⟨rfl, hV29⟩
      have bV29 : Below V28.heap.size V28 V29 := by rw [hV29]; exact (Below.refl _ _).alloc (Nat.le_refl _) _
      have LAV29 := Lib.hid (show LiesI V29 (W5.heap.size + 1) V29.heap.size (some ⟨V28.heap.size, 0, none⟩) [1, 2, 0, 3, -1, -1, 1, 2] by rw [hV29]; exact lies_new V28 (W5.heap.size + 1) [1, 2, 0, 3, -1, -1, 1, 2] (by intro x hx; simp at hx; unfold I64; omega) HZV28.out)
      have L7V29 := Lib.hid ((L7V28.out.below bV29).mono_ (Nat.le_refl _) bV29.size)
      have L4V29 := Lib.hid ((L4V28.out.below bV29).mono_ (Nat.le_refl _) bV29.size)
      have HOV29 := Lib.hid (HOV28.out.trans ((Only.of_below (g := W5.heap.size) bV29).mono HOV28.out.size))
      have HRV29 := Lib.hid (Row.below HRV28.out bV29 HZV28.out)
      have HZV29 := Lib.hid (Nat.lt_of_lt_of_le HZV28.out bV29.size)
      have stV29 := HKK.out _ (HBV.out _ HOV29.out)
      clear hV29 bV29
      refine hK.out _ _ (stV29) (fun hHeldB39 => ?_)
      clear hK K
      try simp only [Act.put, List.setIfInBounds_toArray, List.set_cons_zero, List.set_cons_succ, List.getElem_toArray, List.getElem_cons_succ, List.getElem_cons_zero]
      refine wpAnyH_ready (rs := [8]) (by kernel_rfl) (by simp) ?_
      refine AllReadyH.cons rfl (fun K hK => ?_) AllReadyH.nil
      go_simp
      refine (num_v W5.heap.size W5.heap.size A bc0 bs2 0 (some ⟨V0.drew.heap.size, 0, none⟩) 3 [2, 3, 1] V29 HRV29.out (HYV.out _ HOV29.out) (Nat.le_refl _) hl2 (HOK1.out.pb hQ) L7V29.out (by decide) (by decide)).mono ?_
      rintro e V30 ⟨y9, hym, -, rfl, hrV30, honV30⟩
      have hy := List.mem_of_getElem? hym
      simp at hy
      obtain ⟨d, rfl, hd1, hd5⟩ : ∃ d : Nat, y9 = (d : Int) ∧ 1 ≤ d ∧ d ≤ 3 := ⟨y9.toNat, by omega, by omega, by omega⟩
      have HCD := Lib.hid (show costD d ≤ 30 ∧ nodesD d ≤ 121 by rcases (show d = 1 ∨ d = 2 ∨ d = 3 by omega) with rfl | rfl | rfl <;> first | decide | omega)
      have L4V30 := Lib.hid (liesI_only L4V29.out honV30)
      have LAV30 := Lib.hid (liesI_only LAV29.out honV30)
      have HOV30 := Lib.hid (HOV29.out.trans (honV30.mono HOV29.out.size))
      have HRV30 := Lib.hid hrV30
      have HZV30 := Lib.hid (Nat.lt_of_lt_of_le HZV29.out honV30.size)
      have stV30 := HKK.out _ (HBV.out _ HOV30.out)
      clear hym hy hrV30 honV30
      refine hK.out _ _ (stV30) (fun hHeldB40 => ?_)
      clear hK K
      try simp only [Act.put, List.setIfInBounds_toArray, List.set_cons_zero, List.set_cons_succ, List.getElem_toArray, List.getElem_cons_succ, List.getElem_cons_zero]
      refine wpAnyH_ready (rs := [9]) (by kernel_rfl) (by simp) ?_
      refine AllReadyH.cons rfl (fun K hK => ?_) AllReadyH.nil
      go_simp
      have hcd := HCD.out
      refine (some_any d (by omega) W5.heap.size W5.heap.size A bc0 bs2 Q (0 + 1) (0 + 1) (some ⟨V27.heap.size, 0, none⟩) 2 [0, 1] (some ⟨V28.heap.size, 0, none⟩) 8 [1, 2, 0, 3, -1, -1, 1, 2] V30 HRV30.out (HYV.out _ HOV30.out) (Nat.le_refl _) hl2 hQ (HOK1.out.next hQ (by decide)) (by omega) L4V30.out (by simp only [List.length_cons, List.length_nil]; omega) LAV30.out (by decide) (by intro x hx; simp at hx; omega)).mono ?_
      rintro e V31 ⟨o1, n1, k1, X1, c1, bl1, p1, rfl, hi1, ht1, hs1, hrV31, hok1, honV31⟩
      have HT1 := Lib.hid ht1
      have HI1 := Lib.hid hi1
      have HK1 := Lib.hid (show k1.size + 1 ≤ 121 from Nat.le_trans hs1 HCD.out.2)
      have HOK2 := Lib.hid (show Ok bs2 Q p1 (0 + 1 + 30) from hok1.mono (by have := HCD.out.1; omega))
      have HOV31 := Lib.hid (HOV30.out.trans (honV31.mono HOV30.out.size))
      have HRV31 := Lib.hid hrV31
      have HZV31 := Lib.hid (Nat.lt_of_lt_of_le HZV30.out honV31.size)
      have stV31 := HKK.out _ (HBV.out _ HOV31.out)
      clear hi1 ht1 hs1 hok1 hrV31 honV31 hcd
      refine hK.out _ _ (stV31) (fun hHeldB41 => ?_)
      clear hK K
      try simp only [Act.put, List.setIfInBounds_toArray, List.set_cons_zero, List.set_cons_succ, List.getElem_toArray, List.getElem_cons_succ, List.getElem_cons_zero]
      refine wpAnyH_ready (rs := [10]) (by kernel_rfl) (by simp) ?_
      refine AllReadyH.cons rfl (fun K hK => ?_) AllReadyH.nil
      go_simp
      refine (mut_any (Q - p1) W5.heap.size W5.heap.size A bc0 bs2 Q p1 (0 + 1 + 30) o1 n1 k1 X1 c1 V31 rfl HRV31.out (HYV.out _ HOV31.out) (Nat.le_refl _) hl2 hQ HOK2.out (by decide) (HT1.out.held).1 HI1.out (by have := HK1.out; omega)).mono ?_
      rintro e V32 ⟨q2, m2, j2, Y2, f2, ml2, r2, rfl, gi2, gt2, gs2, hrV32, gok2, honV32⟩
      have GI2 := Lib.hid gi2
      have GT2 := Lib.hid (gt2.lower (base' := w.heap.size + 2) (by have := HZV31.out; have := HWG.out; omega))
      have GK2 := Lib.hid (show j2.size ≤ 500300 by have := gok2.lt; have := hQ.1; have := HK1.out; omega)
      have HOV32 := Lib.hid (HOV31.out.trans (honV32.mono HOV31.out.size))
      have HRV32 := Lib.hid hrV32
      have HZV32 := Lib.hid (Nat.lt_of_lt_of_le HZV31.out honV32.size)
      have stV32 := HKK.out _ (HBV.out _ HOV32.out)
      have HBF := Lib.hid (HBV.out _ HOV32.out)
      have hX1 := HX1.out.below HBF.out (by have := HWG.out; omega)
      have f0 := hX1.free 0
      have f1 := hX1.free 1
      have f2' := hX1.free 2
      have d0 := hX1.cell (i := 0) rfl
      have d1' := hX1.cell (i := 1) rfl
      have d2' := hX1.cell (i := 2) rfl
      have HXF1 := Lib.hid hX1
      have HXF2 := Lib.hid (HX2.out.below HBF.out (by have := HWG.out; omega))
      have HEF := Lib.hid (HE5.out.below HBF.out HE5.out.size)
      clear hX1 gi2 gt2 gs2 gok2 hrV32 honV32
      refine hK.out _ _ (stV32) (fun hHeldB42 => ?_)
      clear hK K
      try simp only [Act.put, List.setIfInBounds_toArray, List.set_cons_zero, List.set_cons_succ, List.getElem_toArray, List.getElem_cons_succ, List.getElem_cons_zero]
      refine wpAnyH_ready (rs := [11]) (by kernel_rfl) (by simp) ?_
      refine AllReadyH.cons rfl (fun K hK => ?_) AllReadyH.nil
      go_simp
      have hw9 := HWG.out
      have he9 := HE9.out
      have r8 := (((HXF2.out.apart (p := ⟨w.heap.size, 0, none⟩) (by dsimp only; omega) (.int .i64 op)).apart (p := ⟨w.heap.size, 1, none⟩) (by dsimp only; omega) (.int .i64 n)).apart (p := ⟨w.heap.size, 2, none⟩) (by dsimp only; omega) (.slice X k.len cx))
      have re := (((HEF.out.apart (p := ⟨w.heap.size, 0, none⟩) (by dsimp only; omega) (.int .i64 op)).apart (p := ⟨w.heap.size, 1, none⟩) (by dsimp only; omega) (.int .i64 n)).apart (p := ⟨w.heap.size, 2, none⟩) (by dsimp only; omega) (.slice X k.len cx))
      have g0 := r8.free 0
      have g1 := r8.free 1
      have g2 := r8.free 2
      have i0 := r8.cell (i := 0) rfl
      have i1 := r8.cell (i := 1) rfl
      have i2 := r8.cell (i := 2) rfl
      have sz := (show _ ∧ _ ∧ _ from ⟨re.cell (i := 0) rfl, re.cell (i := 1) rfl, re.cell (i := 2) rfl⟩)
      have HR8 := Lib.hid r8
      have HRE := Lib.hid re
      clear r8 re
      refine hK.out _ _ (sz) (fun hHeldB43 => ?_)
      clear hK K
      try simp only [Act.put, List.setIfInBounds_toArray, List.set_cons_zero, List.set_cons_succ, List.getElem_toArray, List.getElem_cons_succ, List.getElem_cons_zero]
      refine takeW 12 (v := ?vx44_12) rfl (by kernel_rfl) (fun _ _ _ h => h) (by rfl) (by assumption) ?yx44_12 ?rx44_12
      case yx44_12 => (intro w' hSw; (try dsimp only at hSw); go_simp; try with_reducible rfl)
      try simp only [Act.put, List.setIfInBounds_toArray, List.set_cons_zero, List.set_cons_succ, List.getElem_toArray, List.getElem_cons_succ, List.getElem_cons_zero]
      refine wpAnyH_ready (rs := [13]) (by kernel_rfl) (by simp) ?_
      refine AllReadyH.cons rfl (fun K hK => ?_) AllReadyH.nil
      go_simp
      have re := (((HRE.out.apart (p := ⟨w.heap.size + 1, 0, none⟩) (by dsimp only; omega) (.int .i64 q2)).apart (p := ⟨w.heap.size + 1, 1, none⟩) (by dsimp only; omega) (.int .i64 m2)).apart (p := ⟨w.heap.size + 1, 2, none⟩) (by dsimp only; omega) (.slice Y2 j2.len f2))
      have sy := (show _ ∧ _ ∧ _ from ⟨re.cell (i := 0) rfl, re.cell (i := 1) rfl, re.cell (i := 2) rfl⟩)
      refine hK.out _ _ (sy) (fun hHeldB44 => ?_)
      clear hK K
      try simp only [Act.put, List.setIfInBounds_toArray, List.set_cons_zero, List.set_cons_succ, List.getElem_toArray, List.getElem_cons_succ, List.getElem_cons_zero]
      refine wpAnyH_done (by kernel_rfl) ?_ _
      clear sz sy re
      go_wp2_with fail
      have r7 := ((HXF1.out.put 0 (.int .i64 op)).put 1 (.int .i64 n)).put 2 (.slice X k.len cx)
      have r9 := (((r7.apart (p := ⟨w.heap.size + 1, 0, none⟩) (by dsimp only; omega) (.int .i64 q2)).apart (p := ⟨w.heap.size + 1, 1, none⟩) (by dsimp only; omega) (.int .i64 m2)).apart (p := ⟨w.heap.size + 1, 2, none⟩) (by dsimp only; omega) (.slice Y2 j2.len f2))
      have r6 := ((HR8.out.put 0 (.int .i64 q2)).put 1 (.int .i64 m2)).put 2 (.slice Y2 j2.len f2)
      have t0 := r9.cell (i := 0) rfl
      have t1 := r9.cell (i := 1) rfl
      have t2 := r9.cell (i := 2) rfl
      have t3 := r6.cell (i := 0) rfl
      have t4 := r6.cell (i := 1) rfl
      have t5 := r6.cell (i := 2) rfl
      refine bodyPost_ret (v := .tuple #[.agg #[.int .i64 op, .int .i64 n, .slice X k.len cx], .slice A2 zs.length c2, .agg #[.int .i64 q2, .int .i64 m2, .slice Y2 j2.len f2]]) ?_ rfl (by exact HFIN.out _ HBF.out GT2.out GI2.out GK2.out)
      simp [results, Try.f22, go_sem, t0, t1, t2, t3, t4, t5]
    · go_simp
      refine (arity_any V27).mono ?_
      rintro e V33 ⟨rfl, hV33⟩
      have bV33 : Below V27.heap.size V27 V33 := by rw [hV33]; exact (Below.refl _ _).alloc (Nat.le_refl _) _
      have LAV33 := Lib.hid (show LiesI V33 (W5.heap.size + 1) V33.heap.size (some ⟨V27.heap.size, 0, none⟩) [1, 2, 0, 3, -1, -1, 1, 2] by rw [hV33]; exact lies_new V27 (W5.heap.size + 1) [1, 2, 0, 3, -1, -1, 1, 2] (by intro x hx; simp at hx; unfold I64; omega) HZV27.out)
      have L7V33 := Lib.hid ((L7V27.out.below bV33).mono_ (Nat.le_refl _) bV33.size)
      have HOV33 := Lib.hid (HOV27.out.trans ((Only.of_below (g := W5.heap.size) bV33).mono HOV27.out.size))
      have HRV33 := Lib.hid (Row.below HRV27.out bV33 HZV27.out)
      have HZV33 := Lib.hid (Nat.lt_of_lt_of_le HZV27.out bV33.size)
      have stV33 := HKK.out _ (HBV.out _ HOV33.out)
      clear hV33 bV33
      refine hK.out _ _ (stV33) (fun hHeldB45 => ?_)
      clear hK K
      try simp only [Act.put, List.setIfInBounds_toArray, List.set_cons_zero, List.set_cons_succ, List.getElem_toArray, List.getElem_cons_succ, List.getElem_cons_zero]
      refine wpAnyH_ready (rs := [4, 8]) (by kernel_rfl) (by simp) ?_
      refine AllReadyH.cons rfl (fun K hK => ?_) (AllReadyH.cons rfl (fun K hK => ?_) AllReadyH.nil)
      · go_simp
        obtain ⟨V34, hV34⟩ : ∃ U, U = V33.alloc (Obj.cells #[.int .i64 0, .int .i64 1] 3) := ⟨_, rfl⟩
        rw [← hV34]
        have bV34 : Below V33.heap.size V33 V34 := by rw [hV34]; exact (Below.refl _ _).alloc (Nat.le_refl _) _
        have L4V34 := Lib.hid (show LiesI V34 (W5.heap.size + 1) V34.heap.size (some ⟨V33.heap.size, 0, none⟩) [0, 1] by rw [hV34]; exact lies_new V33 (W5.heap.size + 1) [0, 1] (by intro x hx; simp at hx; unfold I64; omega) HZV33.out)
        have L7V34 := Lib.hid ((L7V33.out.below bV34).mono_ (Nat.le_refl _) bV34.size)
        have LAV34 := Lib.hid ((LAV33.out.below bV34).mono_ (Nat.le_refl _) bV34.size)
        have HOV34 := Lib.hid (HOV33.out.trans ((Only.of_below (g := W5.heap.size) bV34).mono HOV33.out.size))
        have HRV34 := Lib.hid (Row.below HRV33.out bV34 HZV33.out)
        have HZV34 := Lib.hid (Nat.lt_of_lt_of_le HZV33.out bV34.size)
        have stV34 := HKK.out _ (HBV.out _ HOV34.out)
        clear hV34 bV34
        refine hK.out _ _ (stV34) (fun hHeldB46 => ?_)
        clear hK K
        try simp only [Act.put, List.setIfInBounds_toArray, List.set_cons_zero, List.set_cons_succ, List.getElem_toArray, List.getElem_cons_succ, List.getElem_cons_zero]
        refine wpAnyH_ready (rs := [8]) (by kernel_rfl) (by simp) ?_
        refine AllReadyH.cons rfl (fun K hK => ?_) AllReadyH.nil
        go_simp
        refine (num_v W5.heap.size W5.heap.size A bc0 bs2 0 (some ⟨V0.drew.heap.size, 0, none⟩) 3 [2, 3, 1] V34 HRV34.out (HYV.out _ HOV34.out) (Nat.le_refl _) hl2 (HOK1.out.pb hQ) L7V34.out (by decide) (by decide)).mono ?_
        rintro e V35 ⟨y9, hym, -, rfl, hrV35, honV35⟩
        have hy := List.mem_of_getElem? hym
        simp at hy
        obtain ⟨d, rfl, hd1, hd5⟩ : ∃ d : Nat, y9 = (d : Int) ∧ 1 ≤ d ∧ d ≤ 3 := ⟨y9.toNat, by omega, by omega, by omega⟩
        have HCD := Lib.hid (show costD d ≤ 30 ∧ nodesD d ≤ 121 by rcases (show d = 1 ∨ d = 2 ∨ d = 3 by omega) with rfl | rfl | rfl <;> first | decide | omega)
        have LAV35 := Lib.hid (liesI_only LAV34.out honV35)
        have L4V35 := Lib.hid (liesI_only L4V34.out honV35)
        have HOV35 := Lib.hid (HOV34.out.trans (honV35.mono HOV34.out.size))
        have HRV35 := Lib.hid hrV35
        have HZV35 := Lib.hid (Nat.lt_of_lt_of_le HZV34.out honV35.size)
        have stV35 := HKK.out _ (HBV.out _ HOV35.out)
        clear hym hy hrV35 honV35
        refine hK.out _ _ (stV35) (fun hHeldB47 => ?_)
        clear hK K
        try simp only [Act.put, List.setIfInBounds_toArray, List.set_cons_zero, List.set_cons_succ, List.getElem_toArray, List.getElem_cons_succ, List.getElem_cons_zero]
        refine wpAnyH_ready (rs := [9]) (by kernel_rfl) (by simp) ?_
        refine AllReadyH.cons rfl (fun K hK => ?_) AllReadyH.nil
        go_simp
        have hcd := HCD.out
        refine (some_any d (by omega) W5.heap.size W5.heap.size A bc0 bs2 Q (0 + 1) (0 + 1) (some ⟨V33.heap.size, 0, none⟩) 2 [0, 1] (some ⟨V27.heap.size, 0, none⟩) 8 [1, 2, 0, 3, -1, -1, 1, 2] V35 HRV35.out (HYV.out _ HOV35.out) (Nat.le_refl _) hl2 hQ (HOK1.out.next hQ (by decide)) (by omega) L4V35.out (by simp only [List.length_cons, List.length_nil]; omega) LAV35.out (by decide) (by intro x hx; simp at hx; omega)).mono ?_
        rintro e V36 ⟨o1, n1, k1, X1, c1, bl1, p1, rfl, hi1, ht1, hs1, hrV36, hok1, honV36⟩
        have HT1 := Lib.hid ht1
        have HI1 := Lib.hid hi1
        have HK1 := Lib.hid (show k1.size + 1 ≤ 121 from Nat.le_trans hs1 HCD.out.2)
        have HOK2 := Lib.hid (show Ok bs2 Q p1 (0 + 1 + 30) from hok1.mono (by have := HCD.out.1; omega))
        have HOV36 := Lib.hid (HOV35.out.trans (honV36.mono HOV35.out.size))
        have HRV36 := Lib.hid hrV36
        have HZV36 := Lib.hid (Nat.lt_of_lt_of_le HZV35.out honV36.size)
        have stV36 := HKK.out _ (HBV.out _ HOV36.out)
        clear hi1 ht1 hs1 hok1 hrV36 honV36 hcd
        refine hK.out _ _ (stV36) (fun hHeldB48 => ?_)
        clear hK K
        try simp only [Act.put, List.setIfInBounds_toArray, List.set_cons_zero, List.set_cons_succ, List.getElem_toArray, List.getElem_cons_succ, List.getElem_cons_zero]
        refine wpAnyH_ready (rs := [10]) (by kernel_rfl) (by simp) ?_
        refine AllReadyH.cons rfl (fun K hK => ?_) AllReadyH.nil
        go_simp
        refine (mut_any (Q - p1) W5.heap.size W5.heap.size A bc0 bs2 Q p1 (0 + 1 + 30) o1 n1 k1 X1 c1 V36 rfl HRV36.out (HYV.out _ HOV36.out) (Nat.le_refl _) hl2 hQ HOK2.out (by decide) (HT1.out.held).1 HI1.out (by have := HK1.out; omega)).mono ?_
        rintro e V37 ⟨q2, m2, j2, Y2, f2, ml2, r2, rfl, gi2, gt2, gs2, hrV37, gok2, honV37⟩
        have GI2 := Lib.hid gi2
        have GT2 := Lib.hid (gt2.lower (base' := w.heap.size + 2) (by have := HZV36.out; have := HWG.out; omega))
        have GK2 := Lib.hid (show j2.size ≤ 500300 by have := gok2.lt; have := hQ.1; have := HK1.out; omega)
        have HOV37 := Lib.hid (HOV36.out.trans (honV37.mono HOV36.out.size))
        have HRV37 := Lib.hid hrV37
        have HZV37 := Lib.hid (Nat.lt_of_lt_of_le HZV36.out honV37.size)
        have stV37 := HKK.out _ (HBV.out _ HOV37.out)
        have HBF := Lib.hid (HBV.out _ HOV37.out)
        have hX1 := HX1.out.below HBF.out (by have := HWG.out; omega)
        have f0 := hX1.free 0
        have f1 := hX1.free 1
        have f2' := hX1.free 2
        have d0 := hX1.cell (i := 0) rfl
        have d1' := hX1.cell (i := 1) rfl
        have d2' := hX1.cell (i := 2) rfl
        have HXF1 := Lib.hid hX1
        have HXF2 := Lib.hid (HX2.out.below HBF.out (by have := HWG.out; omega))
        have HEF := Lib.hid (HE5.out.below HBF.out HE5.out.size)
        clear hX1 gi2 gt2 gs2 gok2 hrV37 honV37
        refine hK.out _ _ (stV37) (fun hHeldB49 => ?_)
        clear hK K
        try simp only [Act.put, List.setIfInBounds_toArray, List.set_cons_zero, List.set_cons_succ, List.getElem_toArray, List.getElem_cons_succ, List.getElem_cons_zero]
        refine wpAnyH_ready (rs := [11]) (by kernel_rfl) (by simp) ?_
        refine AllReadyH.cons rfl (fun K hK => ?_) AllReadyH.nil
        go_simp
        have hw9 := HWG.out
        have he9 := HE9.out
        have r8 := (((HXF2.out.apart (p := ⟨w.heap.size, 0, none⟩) (by dsimp only; omega) (.int .i64 op)).apart (p := ⟨w.heap.size, 1, none⟩) (by dsimp only; omega) (.int .i64 n)).apart (p := ⟨w.heap.size, 2, none⟩) (by dsimp only; omega) (.slice X k.len cx))
        have re := (((HEF.out.apart (p := ⟨w.heap.size, 0, none⟩) (by dsimp only; omega) (.int .i64 op)).apart (p := ⟨w.heap.size, 1, none⟩) (by dsimp only; omega) (.int .i64 n)).apart (p := ⟨w.heap.size, 2, none⟩) (by dsimp only; omega) (.slice X k.len cx))
        have g0 := r8.free 0
        have g1 := r8.free 1
        have g2 := r8.free 2
        have i0 := r8.cell (i := 0) rfl
        have i1 := r8.cell (i := 1) rfl
        have i2 := r8.cell (i := 2) rfl
        have sz := (show _ ∧ _ ∧ _ from ⟨re.cell (i := 0) rfl, re.cell (i := 1) rfl, re.cell (i := 2) rfl⟩)
        have HR8 := Lib.hid r8
        have HRE := Lib.hid re
        clear r8 re
        refine hK.out _ _ (sz) (fun hHeldB50 => ?_)
        clear hK K
        try simp only [Act.put, List.setIfInBounds_toArray, List.set_cons_zero, List.set_cons_succ, List.getElem_toArray, List.getElem_cons_succ, List.getElem_cons_zero]
        refine takeW 12 (v := ?vx51_12) rfl (by kernel_rfl) (fun _ _ _ h => h) (by rfl) (by assumption) ?yx51_12 ?rx51_12
        case yx51_12 => (intro w' hSw; (try dsimp only at hSw); go_simp; try with_reducible rfl)
        try simp only [Act.put, List.setIfInBounds_toArray, List.set_cons_zero, List.set_cons_succ, List.getElem_toArray, List.getElem_cons_succ, List.getElem_cons_zero]
        refine wpAnyH_ready (rs := [13]) (by kernel_rfl) (by simp) ?_
        refine AllReadyH.cons rfl (fun K hK => ?_) AllReadyH.nil
        go_simp
        have re := (((HRE.out.apart (p := ⟨w.heap.size + 1, 0, none⟩) (by dsimp only; omega) (.int .i64 q2)).apart (p := ⟨w.heap.size + 1, 1, none⟩) (by dsimp only; omega) (.int .i64 m2)).apart (p := ⟨w.heap.size + 1, 2, none⟩) (by dsimp only; omega) (.slice Y2 j2.len f2))
        have sy := (show _ ∧ _ ∧ _ from ⟨re.cell (i := 0) rfl, re.cell (i := 1) rfl, re.cell (i := 2) rfl⟩)
        refine hK.out _ _ (sy) (fun hHeldB51 => ?_)
        clear hK K
        try simp only [Act.put, List.setIfInBounds_toArray, List.set_cons_zero, List.set_cons_succ, List.getElem_toArray, List.getElem_cons_succ, List.getElem_cons_zero]
        refine wpAnyH_done (by kernel_rfl) ?_ _
        clear sz sy re
        go_wp2_with fail
        have r7 := ((HXF1.out.put 0 (.int .i64 op)).put 1 (.int .i64 n)).put 2 (.slice X k.len cx)
        have r9 := (((r7.apart (p := ⟨w.heap.size + 1, 0, none⟩) (by dsimp only; omega) (.int .i64 q2)).apart (p := ⟨w.heap.size + 1, 1, none⟩) (by dsimp only; omega) (.int .i64 m2)).apart (p := ⟨w.heap.size + 1, 2, none⟩) (by dsimp only; omega) (.slice Y2 j2.len f2))
        have r6 := ((HR8.out.put 0 (.int .i64 q2)).put 1 (.int .i64 m2)).put 2 (.slice Y2 j2.len f2)
        have t0 := r9.cell (i := 0) rfl
        have t1 := r9.cell (i := 1) rfl
        have t2 := r9.cell (i := 2) rfl
        have t3 := r6.cell (i := 0) rfl
        have t4 := r6.cell (i := 1) rfl
        have t5 := r6.cell (i := 2) rfl
        refine bodyPost_ret (v := .tuple #[.agg #[.int .i64 op, .int .i64 n, .slice X k.len cx], .slice A2 zs.length c2, .agg #[.int .i64 q2, .int .i64 m2, .slice Y2 j2.len f2]]) ?_ rfl (by exact HFIN.out _ HBF.out GT2.out GI2.out GK2.out)
        simp [results, Try.f22, go_sem, t0, t1, t2, t3, t4, t5]
      · go_simp
        refine (num_v W5.heap.size W5.heap.size A bc0 bs2 0 (some ⟨V0.drew.heap.size, 0, none⟩) 3 [2, 3, 1] V33 HRV33.out (HYV.out _ HOV33.out) (Nat.le_refl _) hl2 (HOK1.out.pb hQ) L7V33.out (by decide) (by decide)).mono ?_
        rintro e V38 ⟨y9, hym, -, rfl, hrV38, honV38⟩
        have hy := List.mem_of_getElem? hym
        simp at hy
        obtain ⟨d, rfl, hd1, hd5⟩ : ∃ d : Nat, y9 = (d : Int) ∧ 1 ≤ d ∧ d ≤ 3 := ⟨y9.toNat, by omega, by omega, by omega⟩
        have HCD := Lib.hid (show costD d ≤ 30 ∧ nodesD d ≤ 121 by rcases (show d = 1 ∨ d = 2 ∨ d = 3 by omega) with rfl | rfl | rfl <;> first | decide | omega)
        have LAV38 := Lib.hid (liesI_only LAV33.out honV38)
        have HOV38 := Lib.hid (HOV33.out.trans (honV38.mono HOV33.out.size))
        have HRV38 := Lib.hid hrV38
        have HZV38 := Lib.hid (Nat.lt_of_lt_of_le HZV33.out honV38.size)
        have stV38 := HKK.out _ (HBV.out _ HOV38.out)
        clear hym hy hrV38 honV38
        refine hK.out _ _ (stV38) (fun hHeldB52 => ?_)
        clear hK K
        try simp only [Act.put, List.setIfInBounds_toArray, List.set_cons_zero, List.set_cons_succ, List.getElem_toArray, List.getElem_cons_succ, List.getElem_cons_zero]
        refine wpAnyH_ready (rs := [4]) (by kernel_rfl) (by simp) ?_
        refine AllReadyH.cons rfl (fun K hK => ?_) AllReadyH.nil
        go_simp
        obtain ⟨V39, hV39⟩ : ∃ U, U = V38.alloc (Obj.cells #[.int .i64 0, .int .i64 1] 3) := ⟨_, rfl⟩
        rw [← hV39]
        have bV39 : Below V38.heap.size V38 V39 := by rw [hV39]; exact (Below.refl _ _).alloc (Nat.le_refl _) _
        have L4V39 := Lib.hid (show LiesI V39 (W5.heap.size + 1) V39.heap.size (some ⟨V38.heap.size, 0, none⟩) [0, 1] by rw [hV39]; exact lies_new V38 (W5.heap.size + 1) [0, 1] (by intro x hx; simp at hx; unfold I64; omega) HZV38.out)
        have LAV39 := Lib.hid ((LAV38.out.below bV39).mono_ (Nat.le_refl _) bV39.size)
        have HOV39 := Lib.hid (HOV38.out.trans ((Only.of_below (g := W5.heap.size) bV39).mono HOV38.out.size))
        have HRV39 := Lib.hid (Row.below HRV38.out bV39 HZV38.out)
        have HZV39 := Lib.hid (Nat.lt_of_lt_of_le HZV38.out bV39.size)
        have stV39 := HKK.out _ (HBV.out _ HOV39.out)
        clear hV39 bV39
        refine hK.out _ _ (stV39) (fun hHeldB53 => ?_)
        clear hK K
        try simp only [Act.put, List.setIfInBounds_toArray, List.set_cons_zero, List.set_cons_succ, List.getElem_toArray, List.getElem_cons_succ, List.getElem_cons_zero]
        refine wpAnyH_ready (rs := [9]) (by kernel_rfl) (by simp) ?_
        refine AllReadyH.cons rfl (fun K hK => ?_) AllReadyH.nil
        go_simp
        have hcd := HCD.out
        refine (some_any d (by omega) W5.heap.size W5.heap.size A bc0 bs2 Q (0 + 1) (0 + 1) (some ⟨V38.heap.size, 0, none⟩) 2 [0, 1] (some ⟨V27.heap.size, 0, none⟩) 8 [1, 2, 0, 3, -1, -1, 1, 2] V39 HRV39.out (HYV.out _ HOV39.out) (Nat.le_refl _) hl2 hQ (HOK1.out.next hQ (by decide)) (by omega) L4V39.out (by simp only [List.length_cons, List.length_nil]; omega) LAV39.out (by decide) (by intro x hx; simp at hx; omega)).mono ?_
        rintro e V40 ⟨o1, n1, k1, X1, c1, bl1, p1, rfl, hi1, ht1, hs1, hrV40, hok1, honV40⟩
        have HT1 := Lib.hid ht1
        have HI1 := Lib.hid hi1
        have HK1 := Lib.hid (show k1.size + 1 ≤ 121 from Nat.le_trans hs1 HCD.out.2)
        have HOK2 := Lib.hid (show Ok bs2 Q p1 (0 + 1 + 30) from hok1.mono (by have := HCD.out.1; omega))
        have HOV40 := Lib.hid (HOV39.out.trans (honV40.mono HOV39.out.size))
        have HRV40 := Lib.hid hrV40
        have HZV40 := Lib.hid (Nat.lt_of_lt_of_le HZV39.out honV40.size)
        have stV40 := HKK.out _ (HBV.out _ HOV40.out)
        clear hi1 ht1 hs1 hok1 hrV40 honV40 hcd
        refine hK.out _ _ (stV40) (fun hHeldB54 => ?_)
        clear hK K
        try simp only [Act.put, List.setIfInBounds_toArray, List.set_cons_zero, List.set_cons_succ, List.getElem_toArray, List.getElem_cons_succ, List.getElem_cons_zero]
        refine wpAnyH_ready (rs := [10]) (by kernel_rfl) (by simp) ?_
        refine AllReadyH.cons rfl (fun K hK => ?_) AllReadyH.nil
        go_simp
        refine (mut_any (Q - p1) W5.heap.size W5.heap.size A bc0 bs2 Q p1 (0 + 1 + 30) o1 n1 k1 X1 c1 V40 rfl HRV40.out (HYV.out _ HOV40.out) (Nat.le_refl _) hl2 hQ HOK2.out (by decide) (HT1.out.held).1 HI1.out (by have := HK1.out; omega)).mono ?_
        rintro e V41 ⟨q2, m2, j2, Y2, f2, ml2, r2, rfl, gi2, gt2, gs2, hrV41, gok2, honV41⟩
        have GI2 := Lib.hid gi2
        have GT2 := Lib.hid (gt2.lower (base' := w.heap.size + 2) (by have := HZV40.out; have := HWG.out; omega))
        have GK2 := Lib.hid (show j2.size ≤ 500300 by have := gok2.lt; have := hQ.1; have := HK1.out; omega)
        have HOV41 := Lib.hid (HOV40.out.trans (honV41.mono HOV40.out.size))
        have HRV41 := Lib.hid hrV41
        have HZV41 := Lib.hid (Nat.lt_of_lt_of_le HZV40.out honV41.size)
        have stV41 := HKK.out _ (HBV.out _ HOV41.out)
        have HBF := Lib.hid (HBV.out _ HOV41.out)
        have hX1 := HX1.out.below HBF.out (by have := HWG.out; omega)
        have f0 := hX1.free 0
        have f1 := hX1.free 1
        have f2' := hX1.free 2
        have d0 := hX1.cell (i := 0) rfl
        have d1' := hX1.cell (i := 1) rfl
        have d2' := hX1.cell (i := 2) rfl
        have HXF1 := Lib.hid hX1
        have HXF2 := Lib.hid (HX2.out.below HBF.out (by have := HWG.out; omega))
        have HEF := Lib.hid (HE5.out.below HBF.out HE5.out.size)
        clear hX1 gi2 gt2 gs2 gok2 hrV41 honV41
        refine hK.out _ _ (stV41) (fun hHeldB55 => ?_)
        clear hK K
        try simp only [Act.put, List.setIfInBounds_toArray, List.set_cons_zero, List.set_cons_succ, List.getElem_toArray, List.getElem_cons_succ, List.getElem_cons_zero]
        refine wpAnyH_ready (rs := [11]) (by kernel_rfl) (by simp) ?_
        refine AllReadyH.cons rfl (fun K hK => ?_) AllReadyH.nil
        go_simp
        have hw9 := HWG.out
        have he9 := HE9.out
        have r8 := (((HXF2.out.apart (p := ⟨w.heap.size, 0, none⟩) (by dsimp only; omega) (.int .i64 op)).apart (p := ⟨w.heap.size, 1, none⟩) (by dsimp only; omega) (.int .i64 n)).apart (p := ⟨w.heap.size, 2, none⟩) (by dsimp only; omega) (.slice X k.len cx))
        have re := (((HEF.out.apart (p := ⟨w.heap.size, 0, none⟩) (by dsimp only; omega) (.int .i64 op)).apart (p := ⟨w.heap.size, 1, none⟩) (by dsimp only; omega) (.int .i64 n)).apart (p := ⟨w.heap.size, 2, none⟩) (by dsimp only; omega) (.slice X k.len cx))
        have g0 := r8.free 0
        have g1 := r8.free 1
        have g2 := r8.free 2
        have i0 := r8.cell (i := 0) rfl
        have i1 := r8.cell (i := 1) rfl
        have i2 := r8.cell (i := 2) rfl
        have sz := (show _ ∧ _ ∧ _ from ⟨re.cell (i := 0) rfl, re.cell (i := 1) rfl, re.cell (i := 2) rfl⟩)
        have HR8 := Lib.hid r8
        have HRE := Lib.hid re
        clear r8 re
        refine hK.out _ _ (sz) (fun hHeldB56 => ?_)
        clear hK K
        try simp only [Act.put, List.setIfInBounds_toArray, List.set_cons_zero, List.set_cons_succ, List.getElem_toArray, List.getElem_cons_succ, List.getElem_cons_zero]
        refine takeW 12 (v := ?vx57_12) rfl (by kernel_rfl) (fun _ _ _ h => h) (by rfl) (by assumption) ?yx57_12 ?rx57_12
        case yx57_12 => (intro w' hSw; (try dsimp only at hSw); go_simp; try with_reducible rfl)
        try simp only [Act.put, List.setIfInBounds_toArray, List.set_cons_zero, List.set_cons_succ, List.getElem_toArray, List.getElem_cons_succ, List.getElem_cons_zero]
        refine wpAnyH_ready (rs := [13]) (by kernel_rfl) (by simp) ?_
        refine AllReadyH.cons rfl (fun K hK => ?_) AllReadyH.nil
        go_simp
        have re := (((HRE.out.apart (p := ⟨w.heap.size + 1, 0, none⟩) (by dsimp only; omega) (.int .i64 q2)).apart (p := ⟨w.heap.size + 1, 1, none⟩) (by dsimp only; omega) (.int .i64 m2)).apart (p := ⟨w.heap.size + 1, 2, none⟩) (by dsimp only; omega) (.slice Y2 j2.len f2))
        have sy := (show _ ∧ _ ∧ _ from ⟨re.cell (i := 0) rfl, re.cell (i := 1) rfl, re.cell (i := 2) rfl⟩)
        refine hK.out _ _ (sy) (fun hHeldB57 => ?_)
        clear hK K
        try simp only [Act.put, List.setIfInBounds_toArray, List.set_cons_zero, List.set_cons_succ, List.getElem_toArray, List.getElem_cons_succ, List.getElem_cons_zero]
        refine wpAnyH_done (by kernel_rfl) ?_ _
        clear sz sy re
        go_wp2_with fail
        have r7 := ((HXF1.out.put 0 (.int .i64 op)).put 1 (.int .i64 n)).put 2 (.slice X k.len cx)
        have r9 := (((r7.apart (p := ⟨w.heap.size + 1, 0, none⟩) (by dsimp only; omega) (.int .i64 q2)).apart (p := ⟨w.heap.size + 1, 1, none⟩) (by dsimp only; omega) (.int .i64 m2)).apart (p := ⟨w.heap.size + 1, 2, none⟩) (by dsimp only; omega) (.slice Y2 j2.len f2))
        have r6 := ((HR8.out.put 0 (.int .i64 q2)).put 1 (.int .i64 m2)).put 2 (.slice Y2 j2.len f2)
        have t0 := r9.cell (i := 0) rfl
        have t1 := r9.cell (i := 1) rfl
        have t2 := r9.cell (i := 2) rfl
        have t3 := r6.cell (i := 0) rfl
        have t4 := r6.cell (i := 1) rfl
        have t5 := r6.cell (i := 2) rfl
        refine bodyPost_ret (v := .tuple #[.agg #[.int .i64 op, .int .i64 n, .slice X k.len cx], .slice A2 zs.length c2, .agg #[.int .i64 q2, .int .i64 m2, .slice Y2 j2.len f2]]) ?_ rfl (by exact HFIN.out _ HBF.out GT2.out GI2.out GK2.out)
        simp [results, Try.f22, go_sem, t0, t1, t2, t3, t4, t5]
end Go.Proofs.Ytdpiklnadhpjjaa
