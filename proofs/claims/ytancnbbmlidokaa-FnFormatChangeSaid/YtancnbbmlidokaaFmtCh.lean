/-
  FormatChange: the text of a change, on both sides.
-/
import Derived.Test.YtancnbbmlidokaaLetter
import Derived.Test.YtancnbbmlidokaaVars
import Derived.Deep.RegionHeld3
import Derived.Deep.CutRange
import Derived.Deep.RegionWith
import Derived.Test.YtancnbbmlidokaaTake
namespace Go.Proofs.Ytancnbbmlidokaa
open Go.RowKit
set_option maxRecDepth 100000

/-- The word of a kind of changes. -/
def chW (k : Int) : List UInt8 :=
  if k = 1 then [110, 101, 119] else if k = 2 then [103, 111, 110, 101] else if k = 3 then [111, 108, 100] else if k = 4 then [117, 115, 101, 100] else if k = 5 then [97, 114, 105, 116, 121] else if k = 6 then [98, 111, 100, 121] else []
def chV (k : Int) : Int := if k = 1 then 2 else if k = 2 then 3 else if k = 3 then 2 else if k = 4 then 2 else if k = 5 then 3 else if k = 6 then 1 else 0
/-- The text of a change. -/
def fmtCh (k n : Int) : List UInt8 := if (1 ≤ k ∧ k ≤ 6) ∧ 0 ≤ n ∧ n < 8 then chW k ++ [32, UInt8.ofNat (65 + n.toNat)] else []

theorem kinds {k : Int} (h : 1 ≤ k ∧ k ≤ 6) : k = 1 ∨ k = 2 ∨ k = 3 ∨ k = 4 ∨ k = 5 ∨ k = 6 := by omega
theorem names {n : Int} (h : 0 ≤ n ∧ n < 8) : n = 0 ∨ n = 1 ∨ n = 2 ∨ n = 3 ∨ n = 4 ∨ n = 5 ∨ n = 6 ∨ n = 7 := by omega
theorem letter_nat {n : Int} (h : 0 ≤ n ∧ n < 8) : (65 : Int) + n = ((UInt8.ofNat (65 + n.toNat)).toNat : Int) := by
  rcases names h with h | h | h | h | h | h | h | h <;> subst h <;> rfl
theorem letter_ext {n : Int} (h : 0 ≤ n ∧ n < 8) : (ByteArray.mk #[65, 66, 67, 68, 69, 70, 71, 72]).extract n.toNat (n + 1).toNat = ⟨#[UInt8.ofNat (65 + n.toNat)]⟩ := by
  rcases names h with h | h | h | h | h | h | h | h <;> subst h <;> rfl

set_option maxHeartbeats 2000000 in
theorem specFmtCh_any (k n : Int) (w : World) : Calls Try.prog 6 #[.agg #[.int .i64 k, .int .i64 n]] w (Gives (txt (fmtCh k n)) w) := by
  obtain ⟨hb0, hr0⟩ := one_box w 24 #[.int .i64 k, .int .i64 n]
  have q0 := hr0.cell (i := 0) rfl
  have q1 := hr0.cell (i := 1) rfl
  have HB := Lib.hid hb0
  have HR := Lib.hid hr0
  clear hb0 hr0
  by_cases h1 : 1 ≤ k
  rotate_left
  · rw [show fmtCh k n = [] from if_neg (fun h => h1 h.1.1)]
    have h3 : k < 1 := by omega
    unfold txt
    go_enter Try.func6, Try.ntmps6
    go_wp2
    go_ret
    exact ⟨rfl, HB.out⟩
  by_cases h2 : k ≤ 6
  rotate_left
  · rw [show fmtCh k n = [] from if_neg (fun h => h2 h.1.2)]
    have h3 : ¬ k < 1 := by omega
    have h4 : 6 < k := by omega
    unfold txt
    go_enter Try.func6, Try.ntmps6
    go_wp2
    go_ret
    exact ⟨rfl, HB.out⟩
  by_cases h0 : 0 ≤ n ∧ n < 8
  rotate_left
  · rw [show fmtCh k n = [] from if_neg (fun h => h0 h.2)]
    have h3 : ¬ k < 1 := by omega
    have h4 : ¬ 6 < k := by omega
    unfold txt
    by_cases h5 : n < 0
    · go_enter Try.func6, Try.ntmps6
      go_wp2
      go_ret
      exact ⟨rfl, HB.out⟩
    · have h6 : 8 ≤ n := by omega
      go_enter Try.func6, Try.ntmps6
      go_wp2
      go_ret
      exact ⟨rfl, HB.out⟩
  rw [show fmtCh k n = chW k ++ [32, UInt8.ofNat (65 + n.toNat)] from if_pos ⟨⟨h1, h2⟩, h0⟩]
  have HN := Lib.hid h0
  obtain ⟨b, hb⟩ : ∃ b, b = UInt8.ofNat (65 + n.toNat) := ⟨_, rfl⟩
  have HC := Lib.hid (show ∀ w', Calls Try.prog 11 #[.int .u8 65, .int .i64 n] w' (Gives (.string ⟨#[b]⟩) w') from fun w' => l1Letter_any b 65 n (by decide) h0.1 (by rw [hb]; exact letter_nat h0) w')
  rw [← hb]
  clear hb
  have h5 : ¬ n < 0 := by omega
  have h6 : ¬ 8 ≤ n := by omega
  clear h0
  obtain ⟨W, hW⟩ : ∃ W, W = w.alloc (Obj.cells #[.int .i64 k, .int .i64 n] 24) := ⟨_, rfl⟩
  have hS : ∀ w' : World, Below W.heap.size W w' → w'.cell? ⟨w.heap.size, 0, none⟩ = some (.int .i64 k) ∧ w'.cell? ⟨w.heap.size, 1, none⟩ = some (.int .i64 n) := fun w' hb => by
    have hz : w.heap.size < W.heap.size := by rw [hW]; exact HR.out.size
    exact ⟨(hb.cell (p := ⟨w.heap.size, 0, none⟩) hz).trans (by rw [hW]; exact q0), (hb.cell (p := ⟨w.heap.size, 1, none⟩) hz).trans (by rw [hW]; exact q1)⟩
  obtain ⟨O, hO⟩ : ∃ O, O = Obj.cells #[Value.string { data := #[] }, Value.string { data := #[110, 101, 119, 32] }, Value.string { data := #[103, 111, 110, 101, 32] }, Value.string { data := #[111, 108, 100, 32] }, Value.string { data := #[117, 115, 101, 100, 32] }, Value.string { data := #[97, 114, 105, 116, 121, 32] }, Value.string { data := #[98, 111, 100, 121, 32] }] 9 := ⟨_, rfl⟩
  have HS := Lib.hid hS
  have HB2 := Lib.hid (show Below w.heap.size w W by rw [hW]; exact HB.out)
  have b0 : Below W.heap.size W W.drew := (Below.refl _ _).drew
  have ba : Below W.heap.size W (W.alloc O).drew := ((Below.refl _ _).alloc (Nat.le_refl _) _).drew
  have s0 := HS.out _ b0
  have sa := HS.out _ ba
  have B0 := Lib.hid b0
  have BA := Lib.hid ba
  have HO := Lib.hid (show Row (W.alloc O).drew W.heap.size 9 #[Value.string { data := #[] }, Value.string { data := #[110, 101, 119, 32] }, Value.string { data := #[103, 111, 110, 101, 32] }, Value.string { data := #[111, 108, 100, 32] }, Value.string { data := #[117, 115, 101, 100, 32] }, Value.string { data := #[97, 114, 105, 116, 121, 32] }, Value.string { data := #[98, 111, 100, 121, 32] }] by rw [hO]; exact (Row.fresh _ _ _).drew)
  clear hS b0 ba
  rcases kinds ⟨h1, h2⟩ with h | h | h | h | h | h <;> subst h
  · clear h1 h2
    go_enter Try.func6, Try.ntmps6
    go_upto_region 3 with fail
    rw [← hW]
    clear hW q0 q1 HB HR
    subst hO
    refine wp_region_held_drew (S := fun w' => w'.cell? ⟨w.heap.size, 0, none⟩ = some (Value.int .i64 1) ∧ w'.cell? ⟨w.heap.size, 1, none⟩ = some (Value.int .i64 n)) (by kernel_rfl) s0 (fun hHeld => ?_)
    refine takeW 1 (v := ?vx1_1) rfl (by kernel_rfl) (fun _ _ _ h => h) (by rfl) (by assumption) ?yx1_1 ?rx1_1
    case yx1_1 => (intro w' hSw; (try dsimp only at hSw); go_simp; try with_reducible rfl)
    try simp only [Act.put, List.setIfInBounds_toArray, List.set_cons_zero, List.set_cons_succ, List.getElem_toArray, List.getElem_cons_succ, List.getElem_cons_zero]
    refine takeW 2 (v := ?vx1_2) rfl (by kernel_rfl) (fun _ _ _ h => h) (by rfl) (by assumption) ?yx1_2 ?rx1_2
    case yx1_2 => (intro w' hSw; (try dsimp only at hSw); go_simp; try with_reducible rfl)
    try simp only [Act.put, List.setIfInBounds_toArray, List.set_cons_zero, List.set_cons_succ, List.getElem_toArray, List.getElem_cons_succ, List.getElem_cons_zero]
    refine takeW 5 (v := ?vx1_5) rfl (by kernel_rfl) (fun _ _ _ h => h) (by rfl) (by assumption) ?yx1_5 ?rx1_5
    case yx1_5 => (intro w' hSw; (try dsimp only at hSw); go_simp; try with_reducible rfl)
    try simp only [Act.put, List.setIfInBounds_toArray, List.set_cons_zero, List.set_cons_succ, List.getElem_toArray, List.getElem_cons_succ, List.getElem_cons_zero]
    refine takeW 6 (v := ?vx1_6) rfl (by kernel_rfl) (fun _ _ _ h => h) (by rfl) (by assumption) ?yx1_6 ?rx1_6
    case yx1_6 => (intro w' hSw; (try dsimp only at hSw); go_simp; try with_reducible rfl)
    try simp only [Act.put, List.setIfInBounds_toArray, List.set_cons_zero, List.set_cons_succ, List.getElem_toArray, List.getElem_cons_succ, List.getElem_cons_zero]
    refine wpAnyH_ready (rs := [0, 7]) (by kernel_rfl) (by simp) ?_
    refine AllReadyH.cons rfl (fun K hK => ?_) (AllReadyH.cons rfl (fun K hK => ?_) AllReadyH.nil)
    · go_simp
      refine hK.out _ _ (HS.out _ BA.out) (fun hHeldB1 => ?_)
      clear hK K
      try simp only [Act.put, List.setIfInBounds_toArray, List.set_cons_zero, List.set_cons_succ, List.getElem_toArray, List.getElem_cons_succ, List.getElem_cons_zero]
      refine takeW 3 (v := ?vx2_3) rfl (by kernel_rfl) (fun _ _ _ h => h) (by rfl) (by assumption) ?yx2_3 ?rx2_3
      case yx2_3 => (intro w' hSw; (try dsimp only at hSw); go_simp; try with_reducible rfl)
      try simp only [Act.put, List.setIfInBounds_toArray, List.set_cons_zero, List.set_cons_succ, List.getElem_toArray, List.getElem_cons_succ, List.getElem_cons_zero]
      refine wpAnyH_ready (rs := [4, 7]) (by kernel_rfl) (by simp) ?_
      refine AllReadyH.cons rfl (fun K hK => ?_) (AllReadyH.cons rfl (fun K hK => ?_) AllReadyH.nil)
      · go_simp
        refine hK.out _ _ (HS.out _ BA.out) (fun hHeldB2 => ?_)
        clear hK K
        try simp only [Act.put, List.setIfInBounds_toArray, List.set_cons_zero, List.set_cons_succ, List.getElem_toArray, List.getElem_cons_succ, List.getElem_cons_zero]
        refine wpAnyH_ready (rs := [7]) (by kernel_rfl) (by simp) ?_
        refine AllReadyH.cons rfl (fun K hK => ?_) AllReadyH.nil
        go_simp
        refine (HC.out _).mono ?_
        rintro e w3 ⟨rfl, hb3⟩
        have hb4 : Below W.heap.size W w3 := BA.out.trans (hb3.mono BA.out.size)
        have st := HS.out _ hb4
        refine hK.out _ _ (st) (fun hHeldB3 => ?_)
        clear hK K
        try simp only [Act.put, List.setIfInBounds_toArray, List.set_cons_zero, List.set_cons_succ, List.getElem_toArray, List.getElem_cons_succ, List.getElem_cons_zero]
        refine takeW 8 (v := ?vx4_8) rfl (by kernel_rfl) (fun _ _ _ h => h) (by rfl) (by assumption) ?yx4_8 ?rx4_8
        case yx4_8 => (intro w' hSw; (try dsimp only at hSw); go_simp; try with_reducible rfl)
        try simp only [Act.put, List.setIfInBounds_toArray, List.set_cons_zero, List.set_cons_succ, List.getElem_toArray, List.getElem_cons_succ, List.getElem_cons_zero]
        refine takeW 9 (v := ?vx4_9) rfl (by kernel_rfl) (fun _ _ _ h => h) (by rfl) (by assumption) ?yx4_9 ?rx4_9
        case yx4_9 => (intro w' hSw; (try dsimp only at hSw); go_simp; try with_reducible rfl)
        try simp only [Act.put, List.setIfInBounds_toArray, List.set_cons_zero, List.set_cons_succ, List.getElem_toArray, List.getElem_cons_succ, List.getElem_cons_zero]
        refine wpAnyH_done (by kernel_rfl) ?_ _
        go_wp2
        go_ret
        exact ⟨by rw [show (ByteArray.mk #[110, 101, 119, 32] ++ ByteArray.mk #[b]) = ⟨(chW 1 ++ [32, b]).toArray⟩ from ByteArray.mk_append_mk [110, 101, 119, 32] [b]]; rfl, by first | exact HB2.out.trans (hb4.mono HB2.out.size) | exact HB2.out.trans ((hb4.alloc hb4.size _).mono HB2.out.size)⟩
      · go_simp
        refine (HC.out _).mono ?_
        rintro e w3 ⟨rfl, hb3⟩
        have hb4 : Below W.heap.size W w3 := BA.out.trans (hb3.mono BA.out.size)
        have st := HS.out _ hb4
        have tz := (HO.out.below hb3 HO.out.size).cell (i := 1) rfl
        refine hK.out _ _ (st) (fun hHeldB4 => ?_)
        clear hK K
        try simp only [Act.put, List.setIfInBounds_toArray, List.set_cons_zero, List.set_cons_succ, List.getElem_toArray, List.getElem_cons_succ, List.getElem_cons_zero]
        refine wpAnyH_ready (rs := [4]) (by kernel_rfl) (by simp) ?_
        refine AllReadyH.cons rfl (fun K hK => ?_) AllReadyH.nil
        go_simp
        refine hK.out _ _ (st) (fun hHeldB5 => ?_)
        clear hK K
        try simp only [Act.put, List.setIfInBounds_toArray, List.set_cons_zero, List.set_cons_succ, List.getElem_toArray, List.getElem_cons_succ, List.getElem_cons_zero]
        refine takeW 8 (v := ?vx6_8) rfl (by kernel_rfl) (fun _ _ _ h => h) (by rfl) (by assumption) ?yx6_8 ?rx6_8
        case yx6_8 => (intro w' hSw; (try dsimp only at hSw); go_simp; try with_reducible rfl)
        try simp only [Act.put, List.setIfInBounds_toArray, List.set_cons_zero, List.set_cons_succ, List.getElem_toArray, List.getElem_cons_succ, List.getElem_cons_zero]
        refine takeW 9 (v := ?vx6_9) rfl (by kernel_rfl) (fun _ _ _ h => h) (by rfl) (by assumption) ?yx6_9 ?rx6_9
        case yx6_9 => (intro w' hSw; (try dsimp only at hSw); go_simp; try with_reducible rfl)
        try simp only [Act.put, List.setIfInBounds_toArray, List.set_cons_zero, List.set_cons_succ, List.getElem_toArray, List.getElem_cons_succ, List.getElem_cons_zero]
        refine wpAnyH_done (by kernel_rfl) ?_ _
        go_wp2
        go_ret
        exact ⟨by rw [show (ByteArray.mk #[110, 101, 119, 32] ++ ByteArray.mk #[b]) = ⟨(chW 1 ++ [32, b]).toArray⟩ from ByteArray.mk_append_mk [110, 101, 119, 32] [b]]; rfl, by first | exact HB2.out.trans (hb4.mono HB2.out.size) | exact HB2.out.trans ((hb4.alloc hb4.size _).mono HB2.out.size)⟩
    · go_simp
      refine (HC.out _).mono ?_
      rintro e w3 ⟨rfl, hb3⟩
      have hb4 : Below W.heap.size W w3 := B0.out.trans (hb3.mono B0.out.size)
      have st := HS.out _ hb4
      refine hK.out _ _ (st) (fun hHeldB6 => ?_)
      clear hK K
      try simp only [Act.put, List.setIfInBounds_toArray, List.set_cons_zero, List.set_cons_succ, List.getElem_toArray, List.getElem_cons_succ, List.getElem_cons_zero]
      refine wpAnyH_ready (rs := [0]) (by kernel_rfl) (by simp) ?_
      refine AllReadyH.cons rfl (fun K hK => ?_) AllReadyH.nil
      go_simp
      refine hK.out _ _ (HS.out _ (hb4.alloc hb4.size _)) (fun hHeldB7 => ?_)
      clear hK K
      try simp only [Act.put, List.setIfInBounds_toArray, List.set_cons_zero, List.set_cons_succ, List.getElem_toArray, List.getElem_cons_succ, List.getElem_cons_zero]
      refine takeW 3 (v := ?vx8_3) rfl (by kernel_rfl) (fun _ _ _ h => h) (by rfl) (by assumption) ?yx8_3 ?rx8_3
      case yx8_3 => (intro w' hSw; (try dsimp only at hSw); go_simp; try with_reducible rfl)
      try simp only [Act.put, List.setIfInBounds_toArray, List.set_cons_zero, List.set_cons_succ, List.getElem_toArray, List.getElem_cons_succ, List.getElem_cons_zero]
      refine wpAnyH_ready (rs := [4]) (by kernel_rfl) (by simp) ?_
      refine AllReadyH.cons rfl (fun K hK => ?_) AllReadyH.nil
      go_simp
      refine hK.out _ _ (HS.out _ (hb4.alloc hb4.size _)) (fun hHeldB8 => ?_)
      clear hK K
      try simp only [Act.put, List.setIfInBounds_toArray, List.set_cons_zero, List.set_cons_succ, List.getElem_toArray, List.getElem_cons_succ, List.getElem_cons_zero]
      refine takeW 8 (v := ?vx9_8) rfl (by kernel_rfl) (fun _ _ _ h => h) (by rfl) (by assumption) ?yx9_8 ?rx9_8
      case yx9_8 => (intro w' hSw; (try dsimp only at hSw); go_simp; try with_reducible rfl)
      try simp only [Act.put, List.setIfInBounds_toArray, List.set_cons_zero, List.set_cons_succ, List.getElem_toArray, List.getElem_cons_succ, List.getElem_cons_zero]
      refine takeW 9 (v := ?vx9_9) rfl (by kernel_rfl) (fun _ _ _ h => h) (by rfl) (by assumption) ?yx9_9 ?rx9_9
      case yx9_9 => (intro w' hSw; (try dsimp only at hSw); go_simp; try with_reducible rfl)
      try simp only [Act.put, List.setIfInBounds_toArray, List.set_cons_zero, List.set_cons_succ, List.getElem_toArray, List.getElem_cons_succ, List.getElem_cons_zero]
      refine wpAnyH_done (by kernel_rfl) ?_ _
      go_wp2
      go_ret
      exact ⟨by rw [show (ByteArray.mk #[110, 101, 119, 32] ++ ByteArray.mk #[b]) = ⟨(chW 1 ++ [32, b]).toArray⟩ from ByteArray.mk_append_mk [110, 101, 119, 32] [b]]; rfl, by first | exact HB2.out.trans (hb4.mono HB2.out.size) | exact HB2.out.trans ((hb4.alloc hb4.size _).mono HB2.out.size)⟩
  · clear h1 h2
    go_enter Try.func6, Try.ntmps6
    go_upto_region 3 with fail
    rw [← hW]
    clear hW q0 q1 HB HR
    subst hO
    refine wp_region_held_drew (S := fun w' => w'.cell? ⟨w.heap.size, 0, none⟩ = some (Value.int .i64 2) ∧ w'.cell? ⟨w.heap.size, 1, none⟩ = some (Value.int .i64 n)) (by kernel_rfl) s0 (fun hHeld => ?_)
    refine takeW 1 (v := ?vx10_1) rfl (by kernel_rfl) (fun _ _ _ h => h) (by rfl) (by assumption) ?yx10_1 ?rx10_1
    case yx10_1 => (intro w' hSw; (try dsimp only at hSw); go_simp; try with_reducible rfl)
    try simp only [Act.put, List.setIfInBounds_toArray, List.set_cons_zero, List.set_cons_succ, List.getElem_toArray, List.getElem_cons_succ, List.getElem_cons_zero]
    refine takeW 2 (v := ?vx10_2) rfl (by kernel_rfl) (fun _ _ _ h => h) (by rfl) (by assumption) ?yx10_2 ?rx10_2
    case yx10_2 => (intro w' hSw; (try dsimp only at hSw); go_simp; try with_reducible rfl)
    try simp only [Act.put, List.setIfInBounds_toArray, List.set_cons_zero, List.set_cons_succ, List.getElem_toArray, List.getElem_cons_succ, List.getElem_cons_zero]
    refine takeW 5 (v := ?vx10_5) rfl (by kernel_rfl) (fun _ _ _ h => h) (by rfl) (by assumption) ?yx10_5 ?rx10_5
    case yx10_5 => (intro w' hSw; (try dsimp only at hSw); go_simp; try with_reducible rfl)
    try simp only [Act.put, List.setIfInBounds_toArray, List.set_cons_zero, List.set_cons_succ, List.getElem_toArray, List.getElem_cons_succ, List.getElem_cons_zero]
    refine takeW 6 (v := ?vx10_6) rfl (by kernel_rfl) (fun _ _ _ h => h) (by rfl) (by assumption) ?yx10_6 ?rx10_6
    case yx10_6 => (intro w' hSw; (try dsimp only at hSw); go_simp; try with_reducible rfl)
    try simp only [Act.put, List.setIfInBounds_toArray, List.set_cons_zero, List.set_cons_succ, List.getElem_toArray, List.getElem_cons_succ, List.getElem_cons_zero]
    refine wpAnyH_ready (rs := [0, 7]) (by kernel_rfl) (by simp) ?_
    refine AllReadyH.cons rfl (fun K hK => ?_) (AllReadyH.cons rfl (fun K hK => ?_) AllReadyH.nil)
    · go_simp
      refine hK.out _ _ (HS.out _ BA.out) (fun hHeldB1 => ?_)
      clear hK K
      try simp only [Act.put, List.setIfInBounds_toArray, List.set_cons_zero, List.set_cons_succ, List.getElem_toArray, List.getElem_cons_succ, List.getElem_cons_zero]
      refine takeW 3 (v := ?vx11_3) rfl (by kernel_rfl) (fun _ _ _ h => h) (by rfl) (by assumption) ?yx11_3 ?rx11_3
      case yx11_3 => (intro w' hSw; (try dsimp only at hSw); go_simp; try with_reducible rfl)
      try simp only [Act.put, List.setIfInBounds_toArray, List.set_cons_zero, List.set_cons_succ, List.getElem_toArray, List.getElem_cons_succ, List.getElem_cons_zero]
      refine wpAnyH_ready (rs := [4, 7]) (by kernel_rfl) (by simp) ?_
      refine AllReadyH.cons rfl (fun K hK => ?_) (AllReadyH.cons rfl (fun K hK => ?_) AllReadyH.nil)
      · go_simp
        refine hK.out _ _ (HS.out _ BA.out) (fun hHeldB2 => ?_)
        clear hK K
        try simp only [Act.put, List.setIfInBounds_toArray, List.set_cons_zero, List.set_cons_succ, List.getElem_toArray, List.getElem_cons_succ, List.getElem_cons_zero]
        refine wpAnyH_ready (rs := [7]) (by kernel_rfl) (by simp) ?_
        refine AllReadyH.cons rfl (fun K hK => ?_) AllReadyH.nil
        go_simp
        refine (HC.out _).mono ?_
        rintro e w3 ⟨rfl, hb3⟩
        have hb4 : Below W.heap.size W w3 := BA.out.trans (hb3.mono BA.out.size)
        have st := HS.out _ hb4
        refine hK.out _ _ (st) (fun hHeldB3 => ?_)
        clear hK K
        try simp only [Act.put, List.setIfInBounds_toArray, List.set_cons_zero, List.set_cons_succ, List.getElem_toArray, List.getElem_cons_succ, List.getElem_cons_zero]
        refine takeW 8 (v := ?vx13_8) rfl (by kernel_rfl) (fun _ _ _ h => h) (by rfl) (by assumption) ?yx13_8 ?rx13_8
        case yx13_8 => (intro w' hSw; (try dsimp only at hSw); go_simp; try with_reducible rfl)
        try simp only [Act.put, List.setIfInBounds_toArray, List.set_cons_zero, List.set_cons_succ, List.getElem_toArray, List.getElem_cons_succ, List.getElem_cons_zero]
        refine takeW 9 (v := ?vx13_9) rfl (by kernel_rfl) (fun _ _ _ h => h) (by rfl) (by assumption) ?yx13_9 ?rx13_9
        case yx13_9 => (intro w' hSw; (try dsimp only at hSw); go_simp; try with_reducible rfl)
        try simp only [Act.put, List.setIfInBounds_toArray, List.set_cons_zero, List.set_cons_succ, List.getElem_toArray, List.getElem_cons_succ, List.getElem_cons_zero]
        refine wpAnyH_done (by kernel_rfl) ?_ _
        go_wp2
        go_ret
        exact ⟨by rw [show (ByteArray.mk #[103, 111, 110, 101, 32] ++ ByteArray.mk #[b]) = ⟨(chW 2 ++ [32, b]).toArray⟩ from ByteArray.mk_append_mk [103, 111, 110, 101, 32] [b]]; rfl, by first | exact HB2.out.trans (hb4.mono HB2.out.size) | exact HB2.out.trans ((hb4.alloc hb4.size _).mono HB2.out.size)⟩
      · go_simp
        refine (HC.out _).mono ?_
        rintro e w3 ⟨rfl, hb3⟩
        have hb4 : Below W.heap.size W w3 := BA.out.trans (hb3.mono BA.out.size)
        have st := HS.out _ hb4
        have tz := (HO.out.below hb3 HO.out.size).cell (i := 2) rfl
        refine hK.out _ _ (st) (fun hHeldB4 => ?_)
        clear hK K
        try simp only [Act.put, List.setIfInBounds_toArray, List.set_cons_zero, List.set_cons_succ, List.getElem_toArray, List.getElem_cons_succ, List.getElem_cons_zero]
        refine wpAnyH_ready (rs := [4]) (by kernel_rfl) (by simp) ?_
        refine AllReadyH.cons rfl (fun K hK => ?_) AllReadyH.nil
        go_simp
        refine hK.out _ _ (st) (fun hHeldB5 => ?_)
        clear hK K
        try simp only [Act.put, List.setIfInBounds_toArray, List.set_cons_zero, List.set_cons_succ, List.getElem_toArray, List.getElem_cons_succ, List.getElem_cons_zero]
        refine takeW 8 (v := ?vx15_8) rfl (by kernel_rfl) (fun _ _ _ h => h) (by rfl) (by assumption) ?yx15_8 ?rx15_8
        case yx15_8 => (intro w' hSw; (try dsimp only at hSw); go_simp; try with_reducible rfl)
        try simp only [Act.put, List.setIfInBounds_toArray, List.set_cons_zero, List.set_cons_succ, List.getElem_toArray, List.getElem_cons_succ, List.getElem_cons_zero]
        refine takeW 9 (v := ?vx15_9) rfl (by kernel_rfl) (fun _ _ _ h => h) (by rfl) (by assumption) ?yx15_9 ?rx15_9
        case yx15_9 => (intro w' hSw; (try dsimp only at hSw); go_simp; try with_reducible rfl)
        try simp only [Act.put, List.setIfInBounds_toArray, List.set_cons_zero, List.set_cons_succ, List.getElem_toArray, List.getElem_cons_succ, List.getElem_cons_zero]
        refine wpAnyH_done (by kernel_rfl) ?_ _
        go_wp2
        go_ret
        exact ⟨by rw [show (ByteArray.mk #[103, 111, 110, 101, 32] ++ ByteArray.mk #[b]) = ⟨(chW 2 ++ [32, b]).toArray⟩ from ByteArray.mk_append_mk [103, 111, 110, 101, 32] [b]]; rfl, by first | exact HB2.out.trans (hb4.mono HB2.out.size) | exact HB2.out.trans ((hb4.alloc hb4.size _).mono HB2.out.size)⟩
    · go_simp
      refine (HC.out _).mono ?_
      rintro e w3 ⟨rfl, hb3⟩
      have hb4 : Below W.heap.size W w3 := B0.out.trans (hb3.mono B0.out.size)
      have st := HS.out _ hb4
      refine hK.out _ _ (st) (fun hHeldB6 => ?_)
      clear hK K
      try simp only [Act.put, List.setIfInBounds_toArray, List.set_cons_zero, List.set_cons_succ, List.getElem_toArray, List.getElem_cons_succ, List.getElem_cons_zero]
      refine wpAnyH_ready (rs := [0]) (by kernel_rfl) (by simp) ?_
      refine AllReadyH.cons rfl (fun K hK => ?_) AllReadyH.nil
      go_simp
      refine hK.out _ _ (HS.out _ (hb4.alloc hb4.size _)) (fun hHeldB7 => ?_)
      clear hK K
      try simp only [Act.put, List.setIfInBounds_toArray, List.set_cons_zero, List.set_cons_succ, List.getElem_toArray, List.getElem_cons_succ, List.getElem_cons_zero]
      refine takeW 3 (v := ?vx17_3) rfl (by kernel_rfl) (fun _ _ _ h => h) (by rfl) (by assumption) ?yx17_3 ?rx17_3
      case yx17_3 => (intro w' hSw; (try dsimp only at hSw); go_simp; try with_reducible rfl)
      try simp only [Act.put, List.setIfInBounds_toArray, List.set_cons_zero, List.set_cons_succ, List.getElem_toArray, List.getElem_cons_succ, List.getElem_cons_zero]
      refine wpAnyH_ready (rs := [4]) (by kernel_rfl) (by simp) ?_
      refine AllReadyH.cons rfl (fun K hK => ?_) AllReadyH.nil
      go_simp
      refine hK.out _ _ (HS.out _ (hb4.alloc hb4.size _)) (fun hHeldB8 => ?_)
      clear hK K
      try simp only [Act.put, List.setIfInBounds_toArray, List.set_cons_zero, List.set_cons_succ, List.getElem_toArray, List.getElem_cons_succ, List.getElem_cons_zero]
      refine takeW 8 (v := ?vx18_8) rfl (by kernel_rfl) (fun _ _ _ h => h) (by rfl) (by assumption) ?yx18_8 ?rx18_8
      case yx18_8 => (intro w' hSw; (try dsimp only at hSw); go_simp; try with_reducible rfl)
      try simp only [Act.put, List.setIfInBounds_toArray, List.set_cons_zero, List.set_cons_succ, List.getElem_toArray, List.getElem_cons_succ, List.getElem_cons_zero]
      refine takeW 9 (v := ?vx18_9) rfl (by kernel_rfl) (fun _ _ _ h => h) (by rfl) (by assumption) ?yx18_9 ?rx18_9
      case yx18_9 => (intro w' hSw; (try dsimp only at hSw); go_simp; try with_reducible rfl)
      try simp only [Act.put, List.setIfInBounds_toArray, List.set_cons_zero, List.set_cons_succ, List.getElem_toArray, List.getElem_cons_succ, List.getElem_cons_zero]
      refine wpAnyH_done (by kernel_rfl) ?_ _
      go_wp2
      go_ret
      exact ⟨by rw [show (ByteArray.mk #[103, 111, 110, 101, 32] ++ ByteArray.mk #[b]) = ⟨(chW 2 ++ [32, b]).toArray⟩ from ByteArray.mk_append_mk [103, 111, 110, 101, 32] [b]]; rfl, by first | exact HB2.out.trans (hb4.mono HB2.out.size) | exact HB2.out.trans ((hb4.alloc hb4.size _).mono HB2.out.size)⟩
  · clear h1 h2
    go_enter Try.func6, Try.ntmps6
    go_upto_region 3 with fail
    rw [← hW]
    clear hW q0 q1 HB HR
    subst hO
    refine wp_region_held_drew (S := fun w' => w'.cell? ⟨w.heap.size, 0, none⟩ = some (Value.int .i64 3) ∧ w'.cell? ⟨w.heap.size, 1, none⟩ = some (Value.int .i64 n)) (by kernel_rfl) s0 (fun hHeld => ?_)
    refine takeW 1 (v := ?vx19_1) rfl (by kernel_rfl) (fun _ _ _ h => h) (by rfl) (by assumption) ?yx19_1 ?rx19_1
    case yx19_1 => (intro w' hSw; (try dsimp only at hSw); go_simp; try with_reducible rfl)
    try simp only [Act.put, List.setIfInBounds_toArray, List.set_cons_zero, List.set_cons_succ, List.getElem_toArray, List.getElem_cons_succ, List.getElem_cons_zero]
    refine takeW 2 (v := ?vx19_2) rfl (by kernel_rfl) (fun _ _ _ h => h) (by rfl) (by assumption) ?yx19_2 ?rx19_2
    case yx19_2 => (intro w' hSw; (try dsimp only at hSw); go_simp; try with_reducible rfl)
    try simp only [Act.put, List.setIfInBounds_toArray, List.set_cons_zero, List.set_cons_succ, List.getElem_toArray, List.getElem_cons_succ, List.getElem_cons_zero]
    refine takeW 5 (v := ?vx19_5) rfl (by kernel_rfl) (fun _ _ _ h => h) (by rfl) (by assumption) ?yx19_5 ?rx19_5
    case yx19_5 => (intro w' hSw; (try dsimp only at hSw); go_simp; try with_reducible rfl)
    try simp only [Act.put, List.setIfInBounds_toArray, List.set_cons_zero, List.set_cons_succ, List.getElem_toArray, List.getElem_cons_succ, List.getElem_cons_zero]
    refine takeW 6 (v := ?vx19_6) rfl (by kernel_rfl) (fun _ _ _ h => h) (by rfl) (by assumption) ?yx19_6 ?rx19_6
    case yx19_6 => (intro w' hSw; (try dsimp only at hSw); go_simp; try with_reducible rfl)
    try simp only [Act.put, List.setIfInBounds_toArray, List.set_cons_zero, List.set_cons_succ, List.getElem_toArray, List.getElem_cons_succ, List.getElem_cons_zero]
    refine wpAnyH_ready (rs := [0, 7]) (by kernel_rfl) (by simp) ?_
    refine AllReadyH.cons rfl (fun K hK => ?_) (AllReadyH.cons rfl (fun K hK => ?_) AllReadyH.nil)
    · go_simp
      refine hK.out _ _ (HS.out _ BA.out) (fun hHeldB1 => ?_)
      clear hK K
      try simp only [Act.put, List.setIfInBounds_toArray, List.set_cons_zero, List.set_cons_succ, List.getElem_toArray, List.getElem_cons_succ, List.getElem_cons_zero]
      refine takeW 3 (v := ?vx20_3) rfl (by kernel_rfl) (fun _ _ _ h => h) (by rfl) (by assumption) ?yx20_3 ?rx20_3
      case yx20_3 => (intro w' hSw; (try dsimp only at hSw); go_simp; try with_reducible rfl)
      try simp only [Act.put, List.setIfInBounds_toArray, List.set_cons_zero, List.set_cons_succ, List.getElem_toArray, List.getElem_cons_succ, List.getElem_cons_zero]
      refine wpAnyH_ready (rs := [4, 7]) (by kernel_rfl) (by simp) ?_
      refine AllReadyH.cons rfl (fun K hK => ?_) (AllReadyH.cons rfl (fun K hK => ?_) AllReadyH.nil)
      · go_simp
        refine hK.out _ _ (HS.out _ BA.out) (fun hHeldB2 => ?_)
        clear hK K
        try simp only [Act.put, List.setIfInBounds_toArray, List.set_cons_zero, List.set_cons_succ, List.getElem_toArray, List.getElem_cons_succ, List.getElem_cons_zero]
        refine wpAnyH_ready (rs := [7]) (by kernel_rfl) (by simp) ?_
        refine AllReadyH.cons rfl (fun K hK => ?_) AllReadyH.nil
        go_simp
        refine (HC.out _).mono ?_
        rintro e w3 ⟨rfl, hb3⟩
        have hb4 : Below W.heap.size W w3 := BA.out.trans (hb3.mono BA.out.size)
        have st := HS.out _ hb4
        refine hK.out _ _ (st) (fun hHeldB3 => ?_)
        clear hK K
        try simp only [Act.put, List.setIfInBounds_toArray, List.set_cons_zero, List.set_cons_succ, List.getElem_toArray, List.getElem_cons_succ, List.getElem_cons_zero]
        refine takeW 8 (v := ?vx22_8) rfl (by kernel_rfl) (fun _ _ _ h => h) (by rfl) (by assumption) ?yx22_8 ?rx22_8
        case yx22_8 => (intro w' hSw; (try dsimp only at hSw); go_simp; try with_reducible rfl)
        try simp only [Act.put, List.setIfInBounds_toArray, List.set_cons_zero, List.set_cons_succ, List.getElem_toArray, List.getElem_cons_succ, List.getElem_cons_zero]
        refine takeW 9 (v := ?vx22_9) rfl (by kernel_rfl) (fun _ _ _ h => h) (by rfl) (by assumption) ?yx22_9 ?rx22_9
        case yx22_9 => (intro w' hSw; (try dsimp only at hSw); go_simp; try with_reducible rfl)
        try simp only [Act.put, List.setIfInBounds_toArray, List.set_cons_zero, List.set_cons_succ, List.getElem_toArray, List.getElem_cons_succ, List.getElem_cons_zero]
        refine wpAnyH_done (by kernel_rfl) ?_ _
        go_wp2
        go_ret
        exact ⟨by rw [show (ByteArray.mk #[111, 108, 100, 32] ++ ByteArray.mk #[b]) = ⟨(chW 3 ++ [32, b]).toArray⟩ from ByteArray.mk_append_mk [111, 108, 100, 32] [b]]; rfl, by first | exact HB2.out.trans (hb4.mono HB2.out.size) | exact HB2.out.trans ((hb4.alloc hb4.size _).mono HB2.out.size)⟩
      · go_simp
        refine (HC.out _).mono ?_
        rintro e w3 ⟨rfl, hb3⟩
        have hb4 : Below W.heap.size W w3 := BA.out.trans (hb3.mono BA.out.size)
        have st := HS.out _ hb4
        have tz := (HO.out.below hb3 HO.out.size).cell (i := 3) rfl
        refine hK.out _ _ (st) (fun hHeldB4 => ?_)
        clear hK K
        try simp only [Act.put, List.setIfInBounds_toArray, List.set_cons_zero, List.set_cons_succ, List.getElem_toArray, List.getElem_cons_succ, List.getElem_cons_zero]
        refine wpAnyH_ready (rs := [4]) (by kernel_rfl) (by simp) ?_
        refine AllReadyH.cons rfl (fun K hK => ?_) AllReadyH.nil
        go_simp
        refine hK.out _ _ (st) (fun hHeldB5 => ?_)
        clear hK K
        try simp only [Act.put, List.setIfInBounds_toArray, List.set_cons_zero, List.set_cons_succ, List.getElem_toArray, List.getElem_cons_succ, List.getElem_cons_zero]
        refine takeW 8 (v := ?vx24_8) rfl (by kernel_rfl) (fun _ _ _ h => h) (by rfl) (by assumption) ?yx24_8 ?rx24_8
        case yx24_8 => (intro w' hSw; (try dsimp only at hSw); go_simp; try with_reducible rfl)
        try simp only [Act.put, List.setIfInBounds_toArray, List.set_cons_zero, List.set_cons_succ, List.getElem_toArray, List.getElem_cons_succ, List.getElem_cons_zero]
        refine takeW 9 (v := ?vx24_9) rfl (by kernel_rfl) (fun _ _ _ h => h) (by rfl) (by assumption) ?yx24_9 ?rx24_9
        case yx24_9 => (intro w' hSw; (try dsimp only at hSw); go_simp; try with_reducible rfl)
        try simp only [Act.put, List.setIfInBounds_toArray, List.set_cons_zero, List.set_cons_succ, List.getElem_toArray, List.getElem_cons_succ, List.getElem_cons_zero]
        refine wpAnyH_done (by kernel_rfl) ?_ _
        go_wp2
        go_ret
        exact ⟨by rw [show (ByteArray.mk #[111, 108, 100, 32] ++ ByteArray.mk #[b]) = ⟨(chW 3 ++ [32, b]).toArray⟩ from ByteArray.mk_append_mk [111, 108, 100, 32] [b]]; rfl, by first | exact HB2.out.trans (hb4.mono HB2.out.size) | exact HB2.out.trans ((hb4.alloc hb4.size _).mono HB2.out.size)⟩
    · go_simp
      refine (HC.out _).mono ?_
      rintro e w3 ⟨rfl, hb3⟩
      have hb4 : Below W.heap.size W w3 := B0.out.trans (hb3.mono B0.out.size)
      have st := HS.out _ hb4
      refine hK.out _ _ (st) (fun hHeldB6 => ?_)
      clear hK K
      try simp only [Act.put, List.setIfInBounds_toArray, List.set_cons_zero, List.set_cons_succ, List.getElem_toArray, List.getElem_cons_succ, List.getElem_cons_zero]
      refine wpAnyH_ready (rs := [0]) (by kernel_rfl) (by simp) ?_
      refine AllReadyH.cons rfl (fun K hK => ?_) AllReadyH.nil
      go_simp
      refine hK.out _ _ (HS.out _ (hb4.alloc hb4.size _)) (fun hHeldB7 => ?_)
      clear hK K
      try simp only [Act.put, List.setIfInBounds_toArray, List.set_cons_zero, List.set_cons_succ, List.getElem_toArray, List.getElem_cons_succ, List.getElem_cons_zero]
      refine takeW 3 (v := ?vx26_3) rfl (by kernel_rfl) (fun _ _ _ h => h) (by rfl) (by assumption) ?yx26_3 ?rx26_3
      case yx26_3 => (intro w' hSw; (try dsimp only at hSw); go_simp; try with_reducible rfl)
      try simp only [Act.put, List.setIfInBounds_toArray, List.set_cons_zero, List.set_cons_succ, List.getElem_toArray, List.getElem_cons_succ, List.getElem_cons_zero]
      refine wpAnyH_ready (rs := [4]) (by kernel_rfl) (by simp) ?_
      refine AllReadyH.cons rfl (fun K hK => ?_) AllReadyH.nil
      go_simp
      refine hK.out _ _ (HS.out _ (hb4.alloc hb4.size _)) (fun hHeldB8 => ?_)
      clear hK K
      try simp only [Act.put, List.setIfInBounds_toArray, List.set_cons_zero, List.set_cons_succ, List.getElem_toArray, List.getElem_cons_succ, List.getElem_cons_zero]
      refine takeW 8 (v := ?vx27_8) rfl (by kernel_rfl) (fun _ _ _ h => h) (by rfl) (by assumption) ?yx27_8 ?rx27_8
      case yx27_8 => (intro w' hSw; (try dsimp only at hSw); go_simp; try with_reducible rfl)
      try simp only [Act.put, List.setIfInBounds_toArray, List.set_cons_zero, List.set_cons_succ, List.getElem_toArray, List.getElem_cons_succ, List.getElem_cons_zero]
      refine takeW 9 (v := ?vx27_9) rfl (by kernel_rfl) (fun _ _ _ h => h) (by rfl) (by assumption) ?yx27_9 ?rx27_9
      case yx27_9 => (intro w' hSw; (try dsimp only at hSw); go_simp; try with_reducible rfl)
      try simp only [Act.put, List.setIfInBounds_toArray, List.set_cons_zero, List.set_cons_succ, List.getElem_toArray, List.getElem_cons_succ, List.getElem_cons_zero]
      refine wpAnyH_done (by kernel_rfl) ?_ _
      go_wp2
      go_ret
      exact ⟨by rw [show (ByteArray.mk #[111, 108, 100, 32] ++ ByteArray.mk #[b]) = ⟨(chW 3 ++ [32, b]).toArray⟩ from ByteArray.mk_append_mk [111, 108, 100, 32] [b]]; rfl, by first | exact HB2.out.trans (hb4.mono HB2.out.size) | exact HB2.out.trans ((hb4.alloc hb4.size _).mono HB2.out.size)⟩
  · clear h1 h2
    go_enter Try.func6, Try.ntmps6
    go_upto_region 3 with fail
    rw [← hW]
    clear hW q0 q1 HB HR
    subst hO
    refine wp_region_held_drew (S := fun w' => w'.cell? ⟨w.heap.size, 0, none⟩ = some (Value.int .i64 4) ∧ w'.cell? ⟨w.heap.size, 1, none⟩ = some (Value.int .i64 n)) (by kernel_rfl) s0 (fun hHeld => ?_)
    refine takeW 1 (v := ?vx28_1) rfl (by kernel_rfl) (fun _ _ _ h => h) (by rfl) (by assumption) ?yx28_1 ?rx28_1
    case yx28_1 => (intro w' hSw; (try dsimp only at hSw); go_simp; try with_reducible rfl)
    try simp only [Act.put, List.setIfInBounds_toArray, List.set_cons_zero, List.set_cons_succ, List.getElem_toArray, List.getElem_cons_succ, List.getElem_cons_zero]
    refine takeW 2 (v := ?vx28_2) rfl (by kernel_rfl) (fun _ _ _ h => h) (by rfl) (by assumption) ?yx28_2 ?rx28_2
    case yx28_2 => (intro w' hSw; (try dsimp only at hSw); go_simp; try with_reducible rfl)
    try simp only [Act.put, List.setIfInBounds_toArray, List.set_cons_zero, List.set_cons_succ, List.getElem_toArray, List.getElem_cons_succ, List.getElem_cons_zero]
    refine takeW 5 (v := ?vx28_5) rfl (by kernel_rfl) (fun _ _ _ h => h) (by rfl) (by assumption) ?yx28_5 ?rx28_5
    case yx28_5 => (intro w' hSw; (try dsimp only at hSw); go_simp; try with_reducible rfl)
    try simp only [Act.put, List.setIfInBounds_toArray, List.set_cons_zero, List.set_cons_succ, List.getElem_toArray, List.getElem_cons_succ, List.getElem_cons_zero]
    refine takeW 6 (v := ?vx28_6) rfl (by kernel_rfl) (fun _ _ _ h => h) (by rfl) (by assumption) ?yx28_6 ?rx28_6
    case yx28_6 => (intro w' hSw; (try dsimp only at hSw); go_simp; try with_reducible rfl)
    try simp only [Act.put, List.setIfInBounds_toArray, List.set_cons_zero, List.set_cons_succ, List.getElem_toArray, List.getElem_cons_succ, List.getElem_cons_zero]
    refine wpAnyH_ready (rs := [0, 7]) (by kernel_rfl) (by simp) ?_
    refine AllReadyH.cons rfl (fun K hK => ?_) (AllReadyH.cons rfl (fun K hK => ?_) AllReadyH.nil)
    · go_simp
      refine hK.out _ _ (HS.out _ BA.out) (fun hHeldB1 => ?_)
      clear hK K
      try simp only [Act.put, List.setIfInBounds_toArray, List.set_cons_zero, List.set_cons_succ, List.getElem_toArray, List.getElem_cons_succ, List.getElem_cons_zero]
      refine takeW 3 (v := ?vx29_3) rfl (by kernel_rfl) (fun _ _ _ h => h) (by rfl) (by assumption) ?yx29_3 ?rx29_3
      case yx29_3 => (intro w' hSw; (try dsimp only at hSw); go_simp; try with_reducible rfl)
      try simp only [Act.put, List.setIfInBounds_toArray, List.set_cons_zero, List.set_cons_succ, List.getElem_toArray, List.getElem_cons_succ, List.getElem_cons_zero]
      refine wpAnyH_ready (rs := [4, 7]) (by kernel_rfl) (by simp) ?_
      refine AllReadyH.cons rfl (fun K hK => ?_) (AllReadyH.cons rfl (fun K hK => ?_) AllReadyH.nil)
      · go_simp
        refine hK.out _ _ (HS.out _ BA.out) (fun hHeldB2 => ?_)
        clear hK K
        try simp only [Act.put, List.setIfInBounds_toArray, List.set_cons_zero, List.set_cons_succ, List.getElem_toArray, List.getElem_cons_succ, List.getElem_cons_zero]
        refine wpAnyH_ready (rs := [7]) (by kernel_rfl) (by simp) ?_
        refine AllReadyH.cons rfl (fun K hK => ?_) AllReadyH.nil
        go_simp
        refine (HC.out _).mono ?_
        rintro e w3 ⟨rfl, hb3⟩
        have hb4 : Below W.heap.size W w3 := BA.out.trans (hb3.mono BA.out.size)
        have st := HS.out _ hb4
        refine hK.out _ _ (st) (fun hHeldB3 => ?_)
        clear hK K
        try simp only [Act.put, List.setIfInBounds_toArray, List.set_cons_zero, List.set_cons_succ, List.getElem_toArray, List.getElem_cons_succ, List.getElem_cons_zero]
        refine takeW 8 (v := ?vx31_8) rfl (by kernel_rfl) (fun _ _ _ h => h) (by rfl) (by assumption) ?yx31_8 ?rx31_8
        case yx31_8 => (intro w' hSw; (try dsimp only at hSw); go_simp; try with_reducible rfl)
        try simp only [Act.put, List.setIfInBounds_toArray, List.set_cons_zero, List.set_cons_succ, List.getElem_toArray, List.getElem_cons_succ, List.getElem_cons_zero]
        refine takeW 9 (v := ?vx31_9) rfl (by kernel_rfl) (fun _ _ _ h => h) (by rfl) (by assumption) ?yx31_9 ?rx31_9
        case yx31_9 => (intro w' hSw; (try dsimp only at hSw); go_simp; try with_reducible rfl)
        try simp only [Act.put, List.setIfInBounds_toArray, List.set_cons_zero, List.set_cons_succ, List.getElem_toArray, List.getElem_cons_succ, List.getElem_cons_zero]
        refine wpAnyH_done (by kernel_rfl) ?_ _
        go_wp2
        go_ret
        exact ⟨by rw [show (ByteArray.mk #[117, 115, 101, 100, 32] ++ ByteArray.mk #[b]) = ⟨(chW 4 ++ [32, b]).toArray⟩ from ByteArray.mk_append_mk [117, 115, 101, 100, 32] [b]]; rfl, by first | exact HB2.out.trans (hb4.mono HB2.out.size) | exact HB2.out.trans ((hb4.alloc hb4.size _).mono HB2.out.size)⟩
      · go_simp
        refine (HC.out _).mono ?_
        rintro e w3 ⟨rfl, hb3⟩
        have hb4 : Below W.heap.size W w3 := BA.out.trans (hb3.mono BA.out.size)
        have st := HS.out _ hb4
        have tz := (HO.out.below hb3 HO.out.size).cell (i := 4) rfl
        refine hK.out _ _ (st) (fun hHeldB4 => ?_)
        clear hK K
        try simp only [Act.put, List.setIfInBounds_toArray, List.set_cons_zero, List.set_cons_succ, List.getElem_toArray, List.getElem_cons_succ, List.getElem_cons_zero]
        refine wpAnyH_ready (rs := [4]) (by kernel_rfl) (by simp) ?_
        refine AllReadyH.cons rfl (fun K hK => ?_) AllReadyH.nil
        go_simp
        refine hK.out _ _ (st) (fun hHeldB5 => ?_)
        clear hK K
        try simp only [Act.put, List.setIfInBounds_toArray, List.set_cons_zero, List.set_cons_succ, List.getElem_toArray, List.getElem_cons_succ, List.getElem_cons_zero]
        refine takeW 8 (v := ?vx33_8) rfl (by kernel_rfl) (fun _ _ _ h => h) (by rfl) (by assumption) ?yx33_8 ?rx33_8
        case yx33_8 => (intro w' hSw; (try dsimp only at hSw); go_simp; try with_reducible rfl)
        try simp only [Act.put, List.setIfInBounds_toArray, List.set_cons_zero, List.set_cons_succ, List.getElem_toArray, List.getElem_cons_succ, List.getElem_cons_zero]
        refine takeW 9 (v := ?vx33_9) rfl (by kernel_rfl) (fun _ _ _ h => h) (by rfl) (by assumption) ?yx33_9 ?rx33_9
        case yx33_9 => (intro w' hSw; (try dsimp only at hSw); go_simp; try with_reducible rfl)
        try simp only [Act.put, List.setIfInBounds_toArray, List.set_cons_zero, List.set_cons_succ, List.getElem_toArray, List.getElem_cons_succ, List.getElem_cons_zero]
        refine wpAnyH_done (by kernel_rfl) ?_ _
        go_wp2
        go_ret
        exact ⟨by rw [show (ByteArray.mk #[117, 115, 101, 100, 32] ++ ByteArray.mk #[b]) = ⟨(chW 4 ++ [32, b]).toArray⟩ from ByteArray.mk_append_mk [117, 115, 101, 100, 32] [b]]; rfl, by first | exact HB2.out.trans (hb4.mono HB2.out.size) | exact HB2.out.trans ((hb4.alloc hb4.size _).mono HB2.out.size)⟩
    · go_simp
      refine (HC.out _).mono ?_
      rintro e w3 ⟨rfl, hb3⟩
      have hb4 : Below W.heap.size W w3 := B0.out.trans (hb3.mono B0.out.size)
      have st := HS.out _ hb4
      refine hK.out _ _ (st) (fun hHeldB6 => ?_)
      clear hK K
      try simp only [Act.put, List.setIfInBounds_toArray, List.set_cons_zero, List.set_cons_succ, List.getElem_toArray, List.getElem_cons_succ, List.getElem_cons_zero]
      refine wpAnyH_ready (rs := [0]) (by kernel_rfl) (by simp) ?_
      refine AllReadyH.cons rfl (fun K hK => ?_) AllReadyH.nil
      go_simp
      refine hK.out _ _ (HS.out _ (hb4.alloc hb4.size _)) (fun hHeldB7 => ?_)
      clear hK K
      try simp only [Act.put, List.setIfInBounds_toArray, List.set_cons_zero, List.set_cons_succ, List.getElem_toArray, List.getElem_cons_succ, List.getElem_cons_zero]
      refine takeW 3 (v := ?vx35_3) rfl (by kernel_rfl) (fun _ _ _ h => h) (by rfl) (by assumption) ?yx35_3 ?rx35_3
      case yx35_3 => (intro w' hSw; (try dsimp only at hSw); go_simp; try with_reducible rfl)
      try simp only [Act.put, List.setIfInBounds_toArray, List.set_cons_zero, List.set_cons_succ, List.getElem_toArray, List.getElem_cons_succ, List.getElem_cons_zero]
      refine wpAnyH_ready (rs := [4]) (by kernel_rfl) (by simp) ?_
      refine AllReadyH.cons rfl (fun K hK => ?_) AllReadyH.nil
      go_simp
      refine hK.out _ _ (HS.out _ (hb4.alloc hb4.size _)) (fun hHeldB8 => ?_)
      clear hK K
      try simp only [Act.put, List.setIfInBounds_toArray, List.set_cons_zero, List.set_cons_succ, List.getElem_toArray, List.getElem_cons_succ, List.getElem_cons_zero]
      refine takeW 8 (v := ?vx36_8) rfl (by kernel_rfl) (fun _ _ _ h => h) (by rfl) (by assumption) ?yx36_8 ?rx36_8
      case yx36_8 => (intro w' hSw; (try dsimp only at hSw); go_simp; try with_reducible rfl)
      try simp only [Act.put, List.setIfInBounds_toArray, List.set_cons_zero, List.set_cons_succ, List.getElem_toArray, List.getElem_cons_succ, List.getElem_cons_zero]
      refine takeW 9 (v := ?vx36_9) rfl (by kernel_rfl) (fun _ _ _ h => h) (by rfl) (by assumption) ?yx36_9 ?rx36_9
      case yx36_9 => (intro w' hSw; (try dsimp only at hSw); go_simp; try with_reducible rfl)
      try simp only [Act.put, List.setIfInBounds_toArray, List.set_cons_zero, List.set_cons_succ, List.getElem_toArray, List.getElem_cons_succ, List.getElem_cons_zero]
      refine wpAnyH_done (by kernel_rfl) ?_ _
      go_wp2
      go_ret
      exact ⟨by rw [show (ByteArray.mk #[117, 115, 101, 100, 32] ++ ByteArray.mk #[b]) = ⟨(chW 4 ++ [32, b]).toArray⟩ from ByteArray.mk_append_mk [117, 115, 101, 100, 32] [b]]; rfl, by first | exact HB2.out.trans (hb4.mono HB2.out.size) | exact HB2.out.trans ((hb4.alloc hb4.size _).mono HB2.out.size)⟩
  · clear h1 h2
    go_enter Try.func6, Try.ntmps6
    go_upto_region 3 with fail
    rw [← hW]
    clear hW q0 q1 HB HR
    subst hO
    refine wp_region_held_drew (S := fun w' => w'.cell? ⟨w.heap.size, 0, none⟩ = some (Value.int .i64 5) ∧ w'.cell? ⟨w.heap.size, 1, none⟩ = some (Value.int .i64 n)) (by kernel_rfl) s0 (fun hHeld => ?_)
    refine takeW 1 (v := ?vx37_1) rfl (by kernel_rfl) (fun _ _ _ h => h) (by rfl) (by assumption) ?yx37_1 ?rx37_1
    case yx37_1 => (intro w' hSw; (try dsimp only at hSw); go_simp; try with_reducible rfl)
    try simp only [Act.put, List.setIfInBounds_toArray, List.set_cons_zero, List.set_cons_succ, List.getElem_toArray, List.getElem_cons_succ, List.getElem_cons_zero]
    refine takeW 2 (v := ?vx37_2) rfl (by kernel_rfl) (fun _ _ _ h => h) (by rfl) (by assumption) ?yx37_2 ?rx37_2
    case yx37_2 => (intro w' hSw; (try dsimp only at hSw); go_simp; try with_reducible rfl)
    try simp only [Act.put, List.setIfInBounds_toArray, List.set_cons_zero, List.set_cons_succ, List.getElem_toArray, List.getElem_cons_succ, List.getElem_cons_zero]
    refine takeW 5 (v := ?vx37_5) rfl (by kernel_rfl) (fun _ _ _ h => h) (by rfl) (by assumption) ?yx37_5 ?rx37_5
    case yx37_5 => (intro w' hSw; (try dsimp only at hSw); go_simp; try with_reducible rfl)
    try simp only [Act.put, List.setIfInBounds_toArray, List.set_cons_zero, List.set_cons_succ, List.getElem_toArray, List.getElem_cons_succ, List.getElem_cons_zero]
    refine takeW 6 (v := ?vx37_6) rfl (by kernel_rfl) (fun _ _ _ h => h) (by rfl) (by assumption) ?yx37_6 ?rx37_6
    case yx37_6 => (intro w' hSw; (try dsimp only at hSw); go_simp; try with_reducible rfl)
    try simp only [Act.put, List.setIfInBounds_toArray, List.set_cons_zero, List.set_cons_succ, List.getElem_toArray, List.getElem_cons_succ, List.getElem_cons_zero]
    refine wpAnyH_ready (rs := [0, 7]) (by kernel_rfl) (by simp) ?_
    refine AllReadyH.cons rfl (fun K hK => ?_) (AllReadyH.cons rfl (fun K hK => ?_) AllReadyH.nil)
    · go_simp
      refine hK.out _ _ (HS.out _ BA.out) (fun hHeldB1 => ?_)
      clear hK K
      try simp only [Act.put, List.setIfInBounds_toArray, List.set_cons_zero, List.set_cons_succ, List.getElem_toArray, List.getElem_cons_succ, List.getElem_cons_zero]
      refine takeW 3 (v := ?vx38_3) rfl (by kernel_rfl) (fun _ _ _ h => h) (by rfl) (by assumption) ?yx38_3 ?rx38_3
      case yx38_3 => (intro w' hSw; (try dsimp only at hSw); go_simp; try with_reducible rfl)
      try simp only [Act.put, List.setIfInBounds_toArray, List.set_cons_zero, List.set_cons_succ, List.getElem_toArray, List.getElem_cons_succ, List.getElem_cons_zero]
      refine wpAnyH_ready (rs := [4, 7]) (by kernel_rfl) (by simp) ?_
      refine AllReadyH.cons rfl (fun K hK => ?_) (AllReadyH.cons rfl (fun K hK => ?_) AllReadyH.nil)
      · go_simp
        refine hK.out _ _ (HS.out _ BA.out) (fun hHeldB2 => ?_)
        clear hK K
        try simp only [Act.put, List.setIfInBounds_toArray, List.set_cons_zero, List.set_cons_succ, List.getElem_toArray, List.getElem_cons_succ, List.getElem_cons_zero]
        refine wpAnyH_ready (rs := [7]) (by kernel_rfl) (by simp) ?_
        refine AllReadyH.cons rfl (fun K hK => ?_) AllReadyH.nil
        go_simp
        refine (HC.out _).mono ?_
        rintro e w3 ⟨rfl, hb3⟩
        have hb4 : Below W.heap.size W w3 := BA.out.trans (hb3.mono BA.out.size)
        have st := HS.out _ hb4
        refine hK.out _ _ (st) (fun hHeldB3 => ?_)
        clear hK K
        try simp only [Act.put, List.setIfInBounds_toArray, List.set_cons_zero, List.set_cons_succ, List.getElem_toArray, List.getElem_cons_succ, List.getElem_cons_zero]
        refine takeW 8 (v := ?vx40_8) rfl (by kernel_rfl) (fun _ _ _ h => h) (by rfl) (by assumption) ?yx40_8 ?rx40_8
        case yx40_8 => (intro w' hSw; (try dsimp only at hSw); go_simp; try with_reducible rfl)
        try simp only [Act.put, List.setIfInBounds_toArray, List.set_cons_zero, List.set_cons_succ, List.getElem_toArray, List.getElem_cons_succ, List.getElem_cons_zero]
        refine takeW 9 (v := ?vx40_9) rfl (by kernel_rfl) (fun _ _ _ h => h) (by rfl) (by assumption) ?yx40_9 ?rx40_9
        case yx40_9 => (intro w' hSw; (try dsimp only at hSw); go_simp; try with_reducible rfl)
        try simp only [Act.put, List.setIfInBounds_toArray, List.set_cons_zero, List.set_cons_succ, List.getElem_toArray, List.getElem_cons_succ, List.getElem_cons_zero]
        refine wpAnyH_done (by kernel_rfl) ?_ _
        go_wp2
        go_ret
        exact ⟨by rw [show (ByteArray.mk #[97, 114, 105, 116, 121, 32] ++ ByteArray.mk #[b]) = ⟨(chW 5 ++ [32, b]).toArray⟩ from ByteArray.mk_append_mk [97, 114, 105, 116, 121, 32] [b]]; rfl, by first | exact HB2.out.trans (hb4.mono HB2.out.size) | exact HB2.out.trans ((hb4.alloc hb4.size _).mono HB2.out.size)⟩
      · go_simp
        refine (HC.out _).mono ?_
        rintro e w3 ⟨rfl, hb3⟩
        have hb4 : Below W.heap.size W w3 := BA.out.trans (hb3.mono BA.out.size)
        have st := HS.out _ hb4
        have tz := (HO.out.below hb3 HO.out.size).cell (i := 5) rfl
        refine hK.out _ _ (st) (fun hHeldB4 => ?_)
        clear hK K
        try simp only [Act.put, List.setIfInBounds_toArray, List.set_cons_zero, List.set_cons_succ, List.getElem_toArray, List.getElem_cons_succ, List.getElem_cons_zero]
        refine wpAnyH_ready (rs := [4]) (by kernel_rfl) (by simp) ?_
        refine AllReadyH.cons rfl (fun K hK => ?_) AllReadyH.nil
        go_simp
        refine hK.out _ _ (st) (fun hHeldB5 => ?_)
        clear hK K
        try simp only [Act.put, List.setIfInBounds_toArray, List.set_cons_zero, List.set_cons_succ, List.getElem_toArray, List.getElem_cons_succ, List.getElem_cons_zero]
        refine takeW 8 (v := ?vx42_8) rfl (by kernel_rfl) (fun _ _ _ h => h) (by rfl) (by assumption) ?yx42_8 ?rx42_8
        case yx42_8 => (intro w' hSw; (try dsimp only at hSw); go_simp; try with_reducible rfl)
        try simp only [Act.put, List.setIfInBounds_toArray, List.set_cons_zero, List.set_cons_succ, List.getElem_toArray, List.getElem_cons_succ, List.getElem_cons_zero]
        refine takeW 9 (v := ?vx42_9) rfl (by kernel_rfl) (fun _ _ _ h => h) (by rfl) (by assumption) ?yx42_9 ?rx42_9
        case yx42_9 => (intro w' hSw; (try dsimp only at hSw); go_simp; try with_reducible rfl)
        try simp only [Act.put, List.setIfInBounds_toArray, List.set_cons_zero, List.set_cons_succ, List.getElem_toArray, List.getElem_cons_succ, List.getElem_cons_zero]
        refine wpAnyH_done (by kernel_rfl) ?_ _
        go_wp2
        go_ret
        exact ⟨by rw [show (ByteArray.mk #[97, 114, 105, 116, 121, 32] ++ ByteArray.mk #[b]) = ⟨(chW 5 ++ [32, b]).toArray⟩ from ByteArray.mk_append_mk [97, 114, 105, 116, 121, 32] [b]]; rfl, by first | exact HB2.out.trans (hb4.mono HB2.out.size) | exact HB2.out.trans ((hb4.alloc hb4.size _).mono HB2.out.size)⟩
    · go_simp
      refine (HC.out _).mono ?_
      rintro e w3 ⟨rfl, hb3⟩
      have hb4 : Below W.heap.size W w3 := B0.out.trans (hb3.mono B0.out.size)
      have st := HS.out _ hb4
      refine hK.out _ _ (st) (fun hHeldB6 => ?_)
      clear hK K
      try simp only [Act.put, List.setIfInBounds_toArray, List.set_cons_zero, List.set_cons_succ, List.getElem_toArray, List.getElem_cons_succ, List.getElem_cons_zero]
      refine wpAnyH_ready (rs := [0]) (by kernel_rfl) (by simp) ?_
      refine AllReadyH.cons rfl (fun K hK => ?_) AllReadyH.nil
      go_simp
      refine hK.out _ _ (HS.out _ (hb4.alloc hb4.size _)) (fun hHeldB7 => ?_)
      clear hK K
      try simp only [Act.put, List.setIfInBounds_toArray, List.set_cons_zero, List.set_cons_succ, List.getElem_toArray, List.getElem_cons_succ, List.getElem_cons_zero]
      refine takeW 3 (v := ?vx44_3) rfl (by kernel_rfl) (fun _ _ _ h => h) (by rfl) (by assumption) ?yx44_3 ?rx44_3
      case yx44_3 => (intro w' hSw; (try dsimp only at hSw); go_simp; try with_reducible rfl)
      try simp only [Act.put, List.setIfInBounds_toArray, List.set_cons_zero, List.set_cons_succ, List.getElem_toArray, List.getElem_cons_succ, List.getElem_cons_zero]
      refine wpAnyH_ready (rs := [4]) (by kernel_rfl) (by simp) ?_
      refine AllReadyH.cons rfl (fun K hK => ?_) AllReadyH.nil
      go_simp
      refine hK.out _ _ (HS.out _ (hb4.alloc hb4.size _)) (fun hHeldB8 => ?_)
      clear hK K
      try simp only [Act.put, List.setIfInBounds_toArray, List.set_cons_zero, List.set_cons_succ, List.getElem_toArray, List.getElem_cons_succ, List.getElem_cons_zero]
      refine takeW 8 (v := ?vx45_8) rfl (by kernel_rfl) (fun _ _ _ h => h) (by rfl) (by assumption) ?yx45_8 ?rx45_8
      case yx45_8 => (intro w' hSw; (try dsimp only at hSw); go_simp; try with_reducible rfl)
      try simp only [Act.put, List.setIfInBounds_toArray, List.set_cons_zero, List.set_cons_succ, List.getElem_toArray, List.getElem_cons_succ, List.getElem_cons_zero]
      refine takeW 9 (v := ?vx45_9) rfl (by kernel_rfl) (fun _ _ _ h => h) (by rfl) (by assumption) ?yx45_9 ?rx45_9
      case yx45_9 => (intro w' hSw; (try dsimp only at hSw); go_simp; try with_reducible rfl)
      try simp only [Act.put, List.setIfInBounds_toArray, List.set_cons_zero, List.set_cons_succ, List.getElem_toArray, List.getElem_cons_succ, List.getElem_cons_zero]
      refine wpAnyH_done (by kernel_rfl) ?_ _
      go_wp2
      go_ret
      exact ⟨by rw [show (ByteArray.mk #[97, 114, 105, 116, 121, 32] ++ ByteArray.mk #[b]) = ⟨(chW 5 ++ [32, b]).toArray⟩ from ByteArray.mk_append_mk [97, 114, 105, 116, 121, 32] [b]]; rfl, by first | exact HB2.out.trans (hb4.mono HB2.out.size) | exact HB2.out.trans ((hb4.alloc hb4.size _).mono HB2.out.size)⟩
  · clear h1 h2
    go_enter Try.func6, Try.ntmps6
    go_upto_region 3 with fail
    rw [← hW]
    clear hW q0 q1 HB HR
    subst hO
    refine wp_region_held_drew (S := fun w' => w'.cell? ⟨w.heap.size, 0, none⟩ = some (Value.int .i64 6) ∧ w'.cell? ⟨w.heap.size, 1, none⟩ = some (Value.int .i64 n)) (by kernel_rfl) s0 (fun hHeld => ?_)
    refine takeW 1 (v := ?vx46_1) rfl (by kernel_rfl) (fun _ _ _ h => h) (by rfl) (by assumption) ?yx46_1 ?rx46_1
    case yx46_1 => (intro w' hSw; (try dsimp only at hSw); go_simp; try with_reducible rfl)
    try simp only [Act.put, List.setIfInBounds_toArray, List.set_cons_zero, List.set_cons_succ, List.getElem_toArray, List.getElem_cons_succ, List.getElem_cons_zero]
    refine takeW 2 (v := ?vx46_2) rfl (by kernel_rfl) (fun _ _ _ h => h) (by rfl) (by assumption) ?yx46_2 ?rx46_2
    case yx46_2 => (intro w' hSw; (try dsimp only at hSw); go_simp; try with_reducible rfl)
    try simp only [Act.put, List.setIfInBounds_toArray, List.set_cons_zero, List.set_cons_succ, List.getElem_toArray, List.getElem_cons_succ, List.getElem_cons_zero]
    refine takeW 5 (v := ?vx46_5) rfl (by kernel_rfl) (fun _ _ _ h => h) (by rfl) (by assumption) ?yx46_5 ?rx46_5
    case yx46_5 => (intro w' hSw; (try dsimp only at hSw); go_simp; try with_reducible rfl)
    try simp only [Act.put, List.setIfInBounds_toArray, List.set_cons_zero, List.set_cons_succ, List.getElem_toArray, List.getElem_cons_succ, List.getElem_cons_zero]
    refine takeW 6 (v := ?vx46_6) rfl (by kernel_rfl) (fun _ _ _ h => h) (by rfl) (by assumption) ?yx46_6 ?rx46_6
    case yx46_6 => (intro w' hSw; (try dsimp only at hSw); go_simp; try with_reducible rfl)
    try simp only [Act.put, List.setIfInBounds_toArray, List.set_cons_zero, List.set_cons_succ, List.getElem_toArray, List.getElem_cons_succ, List.getElem_cons_zero]
    refine wpAnyH_ready (rs := [0, 7]) (by kernel_rfl) (by simp) ?_
    refine AllReadyH.cons rfl (fun K hK => ?_) (AllReadyH.cons rfl (fun K hK => ?_) AllReadyH.nil)
    · go_simp
      refine hK.out _ _ (HS.out _ BA.out) (fun hHeldB1 => ?_)
      clear hK K
      try simp only [Act.put, List.setIfInBounds_toArray, List.set_cons_zero, List.set_cons_succ, List.getElem_toArray, List.getElem_cons_succ, List.getElem_cons_zero]
      refine takeW 3 (v := ?vx47_3) rfl (by kernel_rfl) (fun _ _ _ h => h) (by rfl) (by assumption) ?yx47_3 ?rx47_3
      case yx47_3 => (intro w' hSw; (try dsimp only at hSw); go_simp; try with_reducible rfl)
      try simp only [Act.put, List.setIfInBounds_toArray, List.set_cons_zero, List.set_cons_succ, List.getElem_toArray, List.getElem_cons_succ, List.getElem_cons_zero]
      refine wpAnyH_ready (rs := [4, 7]) (by kernel_rfl) (by simp) ?_
      refine AllReadyH.cons rfl (fun K hK => ?_) (AllReadyH.cons rfl (fun K hK => ?_) AllReadyH.nil)
      · go_simp
        refine hK.out _ _ (HS.out _ BA.out) (fun hHeldB2 => ?_)
        clear hK K
        try simp only [Act.put, List.setIfInBounds_toArray, List.set_cons_zero, List.set_cons_succ, List.getElem_toArray, List.getElem_cons_succ, List.getElem_cons_zero]
        refine wpAnyH_ready (rs := [7]) (by kernel_rfl) (by simp) ?_
        refine AllReadyH.cons rfl (fun K hK => ?_) AllReadyH.nil
        go_simp
        refine (HC.out _).mono ?_
        rintro e w3 ⟨rfl, hb3⟩
        have hb4 : Below W.heap.size W w3 := BA.out.trans (hb3.mono BA.out.size)
        have st := HS.out _ hb4
        refine hK.out _ _ (st) (fun hHeldB3 => ?_)
        clear hK K
        try simp only [Act.put, List.setIfInBounds_toArray, List.set_cons_zero, List.set_cons_succ, List.getElem_toArray, List.getElem_cons_succ, List.getElem_cons_zero]
        refine takeW 8 (v := ?vx49_8) rfl (by kernel_rfl) (fun _ _ _ h => h) (by rfl) (by assumption) ?yx49_8 ?rx49_8
        case yx49_8 => (intro w' hSw; (try dsimp only at hSw); go_simp; try with_reducible rfl)
        try simp only [Act.put, List.setIfInBounds_toArray, List.set_cons_zero, List.set_cons_succ, List.getElem_toArray, List.getElem_cons_succ, List.getElem_cons_zero]
        refine takeW 9 (v := ?vx49_9) rfl (by kernel_rfl) (fun _ _ _ h => h) (by rfl) (by assumption) ?yx49_9 ?rx49_9
        case yx49_9 => (intro w' hSw; (try dsimp only at hSw); go_simp; try with_reducible rfl)
        try simp only [Act.put, List.setIfInBounds_toArray, List.set_cons_zero, List.set_cons_succ, List.getElem_toArray, List.getElem_cons_succ, List.getElem_cons_zero]
        refine wpAnyH_done (by kernel_rfl) ?_ _
        go_wp2
        go_ret
        exact ⟨by rw [show (ByteArray.mk #[98, 111, 100, 121, 32] ++ ByteArray.mk #[b]) = ⟨(chW 6 ++ [32, b]).toArray⟩ from ByteArray.mk_append_mk [98, 111, 100, 121, 32] [b]]; rfl, by first | exact HB2.out.trans (hb4.mono HB2.out.size) | exact HB2.out.trans ((hb4.alloc hb4.size _).mono HB2.out.size)⟩
      · go_simp
        refine (HC.out _).mono ?_
        rintro e w3 ⟨rfl, hb3⟩
        have hb4 : Below W.heap.size W w3 := BA.out.trans (hb3.mono BA.out.size)
        have st := HS.out _ hb4
        have tz := (HO.out.below hb3 HO.out.size).cell (i := 6) rfl
        refine hK.out _ _ (st) (fun hHeldB4 => ?_)
        clear hK K
        try simp only [Act.put, List.setIfInBounds_toArray, List.set_cons_zero, List.set_cons_succ, List.getElem_toArray, List.getElem_cons_succ, List.getElem_cons_zero]
        refine wpAnyH_ready (rs := [4]) (by kernel_rfl) (by simp) ?_
        refine AllReadyH.cons rfl (fun K hK => ?_) AllReadyH.nil
        go_simp
        refine hK.out _ _ (st) (fun hHeldB5 => ?_)
        clear hK K
        try simp only [Act.put, List.setIfInBounds_toArray, List.set_cons_zero, List.set_cons_succ, List.getElem_toArray, List.getElem_cons_succ, List.getElem_cons_zero]
        refine takeW 8 (v := ?vx51_8) rfl (by kernel_rfl) (fun _ _ _ h => h) (by rfl) (by assumption) ?yx51_8 ?rx51_8
        case yx51_8 => (intro w' hSw; (try dsimp only at hSw); go_simp; try with_reducible rfl)
        try simp only [Act.put, List.setIfInBounds_toArray, List.set_cons_zero, List.set_cons_succ, List.getElem_toArray, List.getElem_cons_succ, List.getElem_cons_zero]
        refine takeW 9 (v := ?vx51_9) rfl (by kernel_rfl) (fun _ _ _ h => h) (by rfl) (by assumption) ?yx51_9 ?rx51_9
        case yx51_9 => (intro w' hSw; (try dsimp only at hSw); go_simp; try with_reducible rfl)
        try simp only [Act.put, List.setIfInBounds_toArray, List.set_cons_zero, List.set_cons_succ, List.getElem_toArray, List.getElem_cons_succ, List.getElem_cons_zero]
        refine wpAnyH_done (by kernel_rfl) ?_ _
        go_wp2
        go_ret
        exact ⟨by rw [show (ByteArray.mk #[98, 111, 100, 121, 32] ++ ByteArray.mk #[b]) = ⟨(chW 6 ++ [32, b]).toArray⟩ from ByteArray.mk_append_mk [98, 111, 100, 121, 32] [b]]; rfl, by first | exact HB2.out.trans (hb4.mono HB2.out.size) | exact HB2.out.trans ((hb4.alloc hb4.size _).mono HB2.out.size)⟩
    · go_simp
      refine (HC.out _).mono ?_
      rintro e w3 ⟨rfl, hb3⟩
      have hb4 : Below W.heap.size W w3 := B0.out.trans (hb3.mono B0.out.size)
      have st := HS.out _ hb4
      refine hK.out _ _ (st) (fun hHeldB6 => ?_)
      clear hK K
      try simp only [Act.put, List.setIfInBounds_toArray, List.set_cons_zero, List.set_cons_succ, List.getElem_toArray, List.getElem_cons_succ, List.getElem_cons_zero]
      refine wpAnyH_ready (rs := [0]) (by kernel_rfl) (by simp) ?_
      refine AllReadyH.cons rfl (fun K hK => ?_) AllReadyH.nil
      go_simp
      refine hK.out _ _ (HS.out _ (hb4.alloc hb4.size _)) (fun hHeldB7 => ?_)
      clear hK K
      try simp only [Act.put, List.setIfInBounds_toArray, List.set_cons_zero, List.set_cons_succ, List.getElem_toArray, List.getElem_cons_succ, List.getElem_cons_zero]
      refine takeW 3 (v := ?vx53_3) rfl (by kernel_rfl) (fun _ _ _ h => h) (by rfl) (by assumption) ?yx53_3 ?rx53_3
      case yx53_3 => (intro w' hSw; (try dsimp only at hSw); go_simp; try with_reducible rfl)
      try simp only [Act.put, List.setIfInBounds_toArray, List.set_cons_zero, List.set_cons_succ, List.getElem_toArray, List.getElem_cons_succ, List.getElem_cons_zero]
      refine wpAnyH_ready (rs := [4]) (by kernel_rfl) (by simp) ?_
      refine AllReadyH.cons rfl (fun K hK => ?_) AllReadyH.nil
      go_simp
      refine hK.out _ _ (HS.out _ (hb4.alloc hb4.size _)) (fun hHeldB8 => ?_)
      clear hK K
      try simp only [Act.put, List.setIfInBounds_toArray, List.set_cons_zero, List.set_cons_succ, List.getElem_toArray, List.getElem_cons_succ, List.getElem_cons_zero]
      refine takeW 8 (v := ?vx54_8) rfl (by kernel_rfl) (fun _ _ _ h => h) (by rfl) (by assumption) ?yx54_8 ?rx54_8
      case yx54_8 => (intro w' hSw; (try dsimp only at hSw); go_simp; try with_reducible rfl)
      try simp only [Act.put, List.setIfInBounds_toArray, List.set_cons_zero, List.set_cons_succ, List.getElem_toArray, List.getElem_cons_succ, List.getElem_cons_zero]
      refine takeW 9 (v := ?vx54_9) rfl (by kernel_rfl) (fun _ _ _ h => h) (by rfl) (by assumption) ?yx54_9 ?rx54_9
      case yx54_9 => (intro w' hSw; (try dsimp only at hSw); go_simp; try with_reducible rfl)
      try simp only [Act.put, List.setIfInBounds_toArray, List.set_cons_zero, List.set_cons_succ, List.getElem_toArray, List.getElem_cons_succ, List.getElem_cons_zero]
      refine wpAnyH_done (by kernel_rfl) ?_ _
      go_wp2
      go_ret
      exact ⟨by rw [show (ByteArray.mk #[98, 111, 100, 121, 32] ++ ByteArray.mk #[b]) = ⟨(chW 6 ++ [32, b]).toArray⟩ from ByteArray.mk_append_mk [98, 111, 100, 121, 32] [b]]; rfl, by first | exact HB2.out.trans (hb4.mono HB2.out.size) | exact HB2.out.trans ((hb4.alloc hb4.size _).mono HB2.out.size)⟩
end Go.Proofs.Ytancnbbmlidokaa
