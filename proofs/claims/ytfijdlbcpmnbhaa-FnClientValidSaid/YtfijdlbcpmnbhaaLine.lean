/-
  The text of a library: spec.l2Line, spec.l2Text.
-/
import Derived.Test.YtfijdlbcpmnbhaaTxtT
namespace Go.Proofs.Ytfijdlbcpmnbhaa
open Go.RowKit
set_option maxRecDepth 100000

def lineT (d : De) : List UInt8 := letL 65 d.nm ++ decL d.ar ++ [if d.old then 126 else 61] ++ txtN d.op d.n d.k
def libT : List De → List UInt8
  | [] => []
  | d :: r => lineT d ++ [10] ++ libT r
/-- May the function be written? -/
def okLine (d : De) : Prop := (0 ≤ d.nm ∧ d.nm < 26) ∧ (0 ≤ d.ar ∧ d.ar ≤ 99) ∧ okT d.op d.n d.k = true
theorem lineT_len (d : De) : (lineT d).length ≤ 6 * d.k.size + 9 := by
  have h1 := decL_len d.ar
  have h2 := txtN_len d.op d.n d.k
  simp only [lineT, letL, List.length_append, List.length_cons, List.length_nil]
  omega
theorem libT_len : ∀ ds : List De, (libT ds).length ≤ 10 * sizeD ds
  | [] => by simp [libT, sizeD]
  | d :: r => by
    have h1 := lineT_len d
    have h2 := libT_len r
    simp only [libT, sizeD, List.length_append, List.length_cons, List.length_nil]
    omega
theorem libT_take : ∀ (ds : List De) (j : Nat) (d : De), ds[j]? = some d → libT (ds.take (j + 1)) = libT (ds.take j) ++ lineT d ++ [10]
  | [], j, d, h => by simp at h
  | e :: r, 0, d, h => by simp at h; subst h; simp [libT]
  | e :: r, j + 1, d, h => by
    have := libT_take r j d (by simpa using h)
    simp only [List.take_succ_cons, libT, this, List.append_assoc]

set_option maxHeartbeats 2000000 in
theorem line_true (d : De) (hold : d.old = true) (hok : okLine d) (hz : d.k.size ≤ 1048576) (A : Option Addr) (c : Nat) (w : World) (hl : Lies w 0 w.heap.size A 0 d.k) :
    Calls Try.prog 79 #[.agg #[.int .i64 d.nm, .int .i64 d.ar, .bool d.old, .int .i64 d.op, .int .i64 d.n, .slice A d.k.len c]] w (Gives (txt (lineT d)) w) := by
  obtain ⟨⟨hn0, hn1⟩, ⟨ha0, ha1⟩, hokt⟩ := hok
  obtain ⟨W, hW⟩ : ∃ W, W = w.alloc (Obj.cells #[.int .i64 d.nm, .int .i64 d.ar, .bool true, .int .i64 d.op, .int .i64 d.n, .slice A d.k.len c] 39) := ⟨_, rfl⟩
  have hb0 : Below w.heap.size w W := by rw [hW]; exact (Below.refl _ _).alloc (Nat.le_refl _) _
  have HR0 := Lib.hid (show Row W w.heap.size 39 #[.int .i64 d.nm, .int .i64 d.ar, .bool true, .int .i64 d.op, .int .i64 d.n, .slice A d.k.len c] by rw [hW]; exact Row.fresh _ _ _)
  have hS : ∀ w' : World, Below W.heap.size W w' → w'.cell? ⟨w.heap.size, 0, none⟩ = some (Value.int .i64 d.nm) ∧ w'.cell? ⟨w.heap.size, 1, none⟩ = some (Value.int .i64 d.ar) ∧ w'.cell? ⟨w.heap.size, 2, none⟩ = some (Value.bool true) ∧ w'.cell? ⟨w.heap.size, 3, none⟩ = some (Value.int .i64 d.op) ∧ w'.cell? ⟨w.heap.size, 4, none⟩ = some (Value.int .i64 d.n) ∧ w'.cell? ⟨w.heap.size, 5, none⟩ = some (Value.slice A d.k.len c) := fun w' hb => ⟨(hb.cell (p := ⟨w.heap.size, 0, none⟩) HR0.out.size).trans (HR0.out.cell (i := 0) rfl), (hb.cell (p := ⟨w.heap.size, 1, none⟩) HR0.out.size).trans (HR0.out.cell (i := 1) rfl), (hb.cell (p := ⟨w.heap.size, 2, none⟩) HR0.out.size).trans (HR0.out.cell (i := 2) rfl), (hb.cell (p := ⟨w.heap.size, 3, none⟩) HR0.out.size).trans (HR0.out.cell (i := 3) rfl), (hb.cell (p := ⟨w.heap.size, 4, none⟩) HR0.out.size).trans (HR0.out.cell (i := 4) rfl), (hb.cell (p := ⟨w.heap.size, 5, none⟩) HR0.out.size).trans (HR0.out.cell (i := 5) rfl)⟩
  have HS := Lib.hid hS
  have HB0 := Lib.hid hb0
  have b0 : Below W.heap.size W W.drew := (Below.refl _ _).drew
  have s0 := HS.out _ b0
  have B0 := Lib.hid b0
  obtain ⟨y, hy⟩ : ∃ y, y = UInt8.ofNat (65 + d.nm.toNat) := ⟨_, rfl⟩
  have HCA := Lib.hid (show ∀ w', Calls Try.prog 86 #[.int .u8 65, .int .i64 d.nm] w' (Gives (.string ⟨#[y]⟩) w') from fun w' => l1Letter_any y 65 d.nm (by decide) hn0 (by rw [hy, UInt8.toNat_ofNat', Nat.mod_eq_of_lt (by omega)]; omega) w')
  obtain ⟨z, hz2⟩ : ∃ z, z = ByteArray.mk (decL d.ar).toArray := ⟨_, rfl⟩
  have HCD := Lib.hid (show ∀ w', Calls Try.prog 85 #[.int .i64 d.ar] w' (Gives (.string z) w') from fun w' => by rw [hz2]; exact l16Dec_any d.ar ha0 ha1 w')
  obtain ⟨x, hx⟩ : ∃ x, x = ByteArray.mk (txtN d.op d.n d.k).toArray := ⟨_, rfl⟩
  have HCT := Lib.hid (fun (w' : World) (hb' : Below W.heap.size W w') => show Calls Try.prog 78 #[.agg #[.int .i64 d.op, .int .i64 d.n, .slice A d.k.len c]] w' (Gives (.string x) w') by rw [hx]; exact l1Text_any d.op d.n d.k A c w' ((hl.up hb0).up hb') hz hokt)
  have hxz : x.size ≤ 7000000 := by rw [hx]; exact text_size _ _ _ hz
  have hzz : z.size ≤ 2 := by rw [hz2]; exact decL_len _
  have hs1 : ¬ 9223372036854775807 < 1 + z.size := by omega
  have hs2 : ¬ 9223372036854775807 < 1 + z.size + 1 := by omega
  have hs3 : ¬ 9223372036854775807 < 1 + z.size + 1 + x.size := by omega
  have HT := Lib.hid (show txt (lineT d) = .string (ByteArray.mk #[y] ++ z ++ ByteArray.mk #[126] ++ x) by
    rw [hx, hz2, hy]
    unfold lineT
    rw [hold]
    refine congrArg Value.string ?_
    simp only [← ByteArray.mk_append_mk]
    rfl)
  rw [HT.out, hold]
  clear hx hz2 hy hb0 hS b0 hl hz hold hn0 hn1 ha0 ha1 hokt
  go_enter Try.func79, Try.ntmps79
  go_upto_region 1 with fail
  rw [← hW]
  clear hW
  have q2 : W.cell? ⟨w.heap.size, 2, none⟩ = some (.bool true) := HR0.out.cell (i := 2) rfl
  go_upto_region 4 with fail
  clear q2
  go_region_held3 (fun w' => w'.cell? ⟨w.heap.size, 0, none⟩ = some (Value.int .i64 d.nm) ∧ w'.cell? ⟨w.heap.size, 1, none⟩ = some (Value.int .i64 d.ar) ∧ w'.cell? ⟨w.heap.size, 2, none⟩ = some (Value.bool true) ∧ w'.cell? ⟨w.heap.size, 3, none⟩ = some (Value.int .i64 d.op) ∧ w'.cell? ⟨w.heap.size, 4, none⟩ = some (Value.int .i64 d.n) ∧ w'.cell? ⟨w.heap.size, 5, none⟩ = some (Value.slice A d.k.len c))
    (first | with_reducible exact s0 | with_reducible exact s1 | with_reducible exact s2 | with_reducible exact s3 | fail)
    (first
      | (go_at_call 78
         with_reducible refine (HCT.out _ B2.out).mono ?_
         rintro e w3 ⟨rfl, hb3⟩
         have b3 := B2.out.trans (hb3.mono B2.out.size)
         have B3 := Lib.hid b3
         have s3 := HS.out _ b3
         clear hb3 b3)
      | (go_at_call 85
         with_reducible refine (HCD.out _).mono ?_
         rintro e w2 ⟨rfl, hb2⟩
         have b2 := B1.out.trans (hb2.mono B1.out.size)
         have B2 := Lib.hid b2
         have s2 := HS.out _ b2
         clear hb2 b2)
      | (go_at_call 86
         with_reducible refine (HCA.out _).mono ?_
         rintro e w1 ⟨rfl, hb1⟩
         have b1 := B0.out.trans (hb1.mono B0.out.size)
         have B1 := Lib.hid b1
         have s1 := HS.out _ b1
         clear hb1 b1)
      | fail)
  all_goals
    have HBZ := Lib.hid (HB0.out.trans (B3.out.mono HB0.out.size))
    clear s0 s1 s2 s3
    go_wp2
    go_ret
    exact ⟨rfl, HBZ.out⟩

set_option maxHeartbeats 2000000 in
theorem line_false (d : De) (hold : d.old = false) (hok : okLine d) (hz : d.k.size ≤ 1048576) (A : Option Addr) (c : Nat) (w : World) (hl : Lies w 0 w.heap.size A 0 d.k) :
    Calls Try.prog 79 #[.agg #[.int .i64 d.nm, .int .i64 d.ar, .bool d.old, .int .i64 d.op, .int .i64 d.n, .slice A d.k.len c]] w (Gives (txt (lineT d)) w) := by
  obtain ⟨⟨hn0, hn1⟩, ⟨ha0, ha1⟩, hokt⟩ := hok
  obtain ⟨W, hW⟩ : ∃ W, W = w.alloc (Obj.cells #[.int .i64 d.nm, .int .i64 d.ar, .bool false, .int .i64 d.op, .int .i64 d.n, .slice A d.k.len c] 39) := ⟨_, rfl⟩
  have hb0 : Below w.heap.size w W := by rw [hW]; exact (Below.refl _ _).alloc (Nat.le_refl _) _
  have HR0 := Lib.hid (show Row W w.heap.size 39 #[.int .i64 d.nm, .int .i64 d.ar, .bool false, .int .i64 d.op, .int .i64 d.n, .slice A d.k.len c] by rw [hW]; exact Row.fresh _ _ _)
  have hS : ∀ w' : World, Below W.heap.size W w' → w'.cell? ⟨w.heap.size, 0, none⟩ = some (Value.int .i64 d.nm) ∧ w'.cell? ⟨w.heap.size, 1, none⟩ = some (Value.int .i64 d.ar) ∧ w'.cell? ⟨w.heap.size, 2, none⟩ = some (Value.bool false) ∧ w'.cell? ⟨w.heap.size, 3, none⟩ = some (Value.int .i64 d.op) ∧ w'.cell? ⟨w.heap.size, 4, none⟩ = some (Value.int .i64 d.n) ∧ w'.cell? ⟨w.heap.size, 5, none⟩ = some (Value.slice A d.k.len c) := fun w' hb => ⟨(hb.cell (p := ⟨w.heap.size, 0, none⟩) HR0.out.size).trans (HR0.out.cell (i := 0) rfl), (hb.cell (p := ⟨w.heap.size, 1, none⟩) HR0.out.size).trans (HR0.out.cell (i := 1) rfl), (hb.cell (p := ⟨w.heap.size, 2, none⟩) HR0.out.size).trans (HR0.out.cell (i := 2) rfl), (hb.cell (p := ⟨w.heap.size, 3, none⟩) HR0.out.size).trans (HR0.out.cell (i := 3) rfl), (hb.cell (p := ⟨w.heap.size, 4, none⟩) HR0.out.size).trans (HR0.out.cell (i := 4) rfl), (hb.cell (p := ⟨w.heap.size, 5, none⟩) HR0.out.size).trans (HR0.out.cell (i := 5) rfl)⟩
  have HS := Lib.hid hS
  have HB0 := Lib.hid hb0
  have b0 : Below W.heap.size W W.drew := (Below.refl _ _).drew
  have s0 := HS.out _ b0
  have B0 := Lib.hid b0
  obtain ⟨y, hy⟩ : ∃ y, y = UInt8.ofNat (65 + d.nm.toNat) := ⟨_, rfl⟩
  have HCA := Lib.hid (show ∀ w', Calls Try.prog 86 #[.int .u8 65, .int .i64 d.nm] w' (Gives (.string ⟨#[y]⟩) w') from fun w' => l1Letter_any y 65 d.nm (by decide) hn0 (by rw [hy, UInt8.toNat_ofNat', Nat.mod_eq_of_lt (by omega)]; omega) w')
  obtain ⟨z, hz2⟩ : ∃ z, z = ByteArray.mk (decL d.ar).toArray := ⟨_, rfl⟩
  have HCD := Lib.hid (show ∀ w', Calls Try.prog 85 #[.int .i64 d.ar] w' (Gives (.string z) w') from fun w' => by rw [hz2]; exact l16Dec_any d.ar ha0 ha1 w')
  obtain ⟨x, hx⟩ : ∃ x, x = ByteArray.mk (txtN d.op d.n d.k).toArray := ⟨_, rfl⟩
  have HCT := Lib.hid (fun (w' : World) (hb' : Below W.heap.size W w') => show Calls Try.prog 78 #[.agg #[.int .i64 d.op, .int .i64 d.n, .slice A d.k.len c]] w' (Gives (.string x) w') by rw [hx]; exact l1Text_any d.op d.n d.k A c w' ((hl.up hb0).up hb') hz hokt)
  have hxz : x.size ≤ 7000000 := by rw [hx]; exact text_size _ _ _ hz
  have hzz : z.size ≤ 2 := by rw [hz2]; exact decL_len _
  have hs1 : ¬ 9223372036854775807 < 1 + z.size := by omega
  have hs2 : ¬ 9223372036854775807 < 1 + z.size + 1 := by omega
  have hs3 : ¬ 9223372036854775807 < 1 + z.size + 1 + x.size := by omega
  have HT := Lib.hid (show txt (lineT d) = .string (ByteArray.mk #[y] ++ z ++ ByteArray.mk #[61] ++ x) by
    rw [hx, hz2, hy]
    unfold lineT
    rw [hold]
    refine congrArg Value.string ?_
    simp only [← ByteArray.mk_append_mk]
    rfl)
  rw [HT.out, hold]
  clear hx hz2 hy hb0 hS b0 hl hz hold hn0 hn1 ha0 ha1 hokt
  go_enter Try.func79, Try.ntmps79
  go_upto_region 1 with fail
  rw [← hW]
  clear hW
  have q2 : W.cell? ⟨w.heap.size, 2, none⟩ = some (.bool false) := HR0.out.cell (i := 2) rfl
  go_upto_region 4 with fail
  clear q2
  go_region_held3 (fun w' => w'.cell? ⟨w.heap.size, 0, none⟩ = some (Value.int .i64 d.nm) ∧ w'.cell? ⟨w.heap.size, 1, none⟩ = some (Value.int .i64 d.ar) ∧ w'.cell? ⟨w.heap.size, 2, none⟩ = some (Value.bool false) ∧ w'.cell? ⟨w.heap.size, 3, none⟩ = some (Value.int .i64 d.op) ∧ w'.cell? ⟨w.heap.size, 4, none⟩ = some (Value.int .i64 d.n) ∧ w'.cell? ⟨w.heap.size, 5, none⟩ = some (Value.slice A d.k.len c))
    (first | with_reducible exact s0 | with_reducible exact s1 | with_reducible exact s2 | with_reducible exact s3 | fail)
    (first
      | (go_at_call 78
         with_reducible refine (HCT.out _ B2.out).mono ?_
         rintro e w3 ⟨rfl, hb3⟩
         have b3 := B2.out.trans (hb3.mono B2.out.size)
         have B3 := Lib.hid b3
         have s3 := HS.out _ b3
         clear hb3 b3)
      | (go_at_call 85
         with_reducible refine (HCD.out _).mono ?_
         rintro e w2 ⟨rfl, hb2⟩
         have b2 := B1.out.trans (hb2.mono B1.out.size)
         have B2 := Lib.hid b2
         have s2 := HS.out _ b2
         clear hb2 b2)
      | (go_at_call 86
         with_reducible refine (HCA.out _).mono ?_
         rintro e w1 ⟨rfl, hb1⟩
         have b1 := B0.out.trans (hb1.mono B0.out.size)
         have B1 := Lib.hid b1
         have s1 := HS.out _ b1
         clear hb1 b1)
      | fail)
  all_goals
    have HBZ := Lib.hid (HB0.out.trans (B3.out.mono HB0.out.size))
    clear s0 s1 s2 s3
    go_wp2
    go_ret
    exact ⟨rfl, HBZ.out⟩

theorem l2Line_any (d : De) (hok : okLine d) (hz : d.k.size ≤ 1048576) (A : Option Addr) (c : Nat) (w : World) (hl : Lies w 0 w.heap.size A 0 d.k) :
    Calls Try.prog 79 #[.agg #[.int .i64 d.nm, .int .i64 d.ar, .bool d.old, .int .i64 d.op, .int .i64 d.n, .slice A d.k.len c]] w (Gives (txt (lineT d)) w) := by
  cases h : d.old with
  | true => have := line_true d h hok hz A c w hl; rwa [h] at this
  | false => have := line_false d h hok hz A c w hl; rwa [h] at this

set_option maxHeartbeats 2000000 in
theorem l2Text_any (ds : List De) (hok : ∀ d ∈ ds, okLine d) (hz : sizeD ds ≤ 1048576) (A : Option Addr) (c : Nat) (w : World) (hl : LiesD w 0 w.heap.size A ds) :
    Calls Try.prog 71 #[.slice A ds.length c] w (Gives (txt (libT ds)) w) := by
  have HL := Lib.hid hl
  have HOK := Lib.hid hok
  have hdl := sizeD_len ds
  clear hl hok
  go_enter Try.func71, Try.ntmps71
  go_wp2_with fail
  go_loopw [3, 4] (fun v u wr => ∃ (j : Nat), j ≤ ds.length ∧ u = .int .i64 (j : Int) ∧ v = txt (libT (ds.take j)) ∧ Below w.heap.size w wr) (fun _ u _ => ds.length - (intOf u).toNat)
  case atStart => exact ⟨0, by omega, rfl, rfl, Below.refl _ _⟩
  case round =>
    obtain ⟨j, hj, rfl, rfl, hb⟩ := hrel
    have HB := Lib.hid hb
    obtain ⟨s, hs⟩ : ∃ s, s = ByteArray.mk (libT (ds.take j)).toArray := ⟨_, rfl⟩
    have hsz : s.size ≤ 20000000 := by
      have h1 := libT_len (ds.take j)
      have h2 : sizeD (ds.take j) ≤ sizeD ds := by
        have : ∀ (l : List De) (n : Nat), sizeD (l.take n) ≤ sizeD l := fun l => by
          induction l with
          | nil => intro n; simp
          | cons d r ih => intro n; cases n with
            | zero => simp [sizeD]
            | succ n => have := ih n; simp only [List.take_succ_cons, sizeD]; omega
        exact this ds j
      rw [hs]
      show (libT (ds.take j)).length ≤ 20000000
      omega
    rw [show txt (libT (ds.take j)) = .string s by rw [hs]; rfl]
    by_cases hlt : j < ds.length
    · have e1 := List.getElem?_eq_getElem hlt
      generalize ds[j] = d at e1
      have hd := (HL.out.up hb) j d e1
      obtain ⟨b, o, A', c', hA, _, hbb, hf, g0, g1, g2, g3, g4, g5, h1, h2, hld⟩ := hd
      subst hA
      obtain ⟨x, hx⟩ : ∃ x, x = ByteArray.mk (lineT d).toArray := ⟨_, rfl⟩
      have hdz := sizeD_at e1
      have hxz : x.size ≤ 7000000 := by
        have := lineT_len d
        rw [hx]
        show (lineT d).length ≤ 7000000
        omega
      have HC := Lib.hid (show Calls Try.prog 79 #[.agg #[.int .i64 d.nm, .int .i64 d.ar, .bool d.old, .int .i64 d.op, .int .i64 d.n, .slice A' d.k.len c']] wr (Gives (.string x) wr) by
        rw [hx]; exact l2Line_any d (HOK.out d (List.mem_of_getElem? e1)) (by omega) A' c' wr hld)
      have HN := Lib.hid (show txt (libT (ds.take (j + 1))) = .string (s ++ x ++ ByteArray.mk #[10]) by
        rw [libT_take ds j d e1, hs, hx]
        refine congrArg Value.string ?_
        simp only [← ByteArray.mk_append_mk])
      clear hx hs hld e1 hb
      go_wp2_with fail
      refine HC.out.mono ?_
      rintro e w1 ⟨rfl, hb1⟩
      have HB1 := Lib.hid (HB.out.trans (hb1.mono HB.out.size))
      clear hb1 g0 g1 g2 g3 g4 g5 HC HB
      go_wp2_with fail
      go_roundw
      case rel => exact ⟨j + 1, hlt, by go_num, HN.out.symm, HB1.out⟩
      case measure => simp [intOf]; omega
    · have e9 : j = ds.length := by omega
      have HZ := Lib.hid (show Value.string s = txt (libT ds) by rw [hs, e9, List.take_length]; rfl)
      clear hs hb
      go_wp2_with fail
      go_ret
      exact ⟨congrArg Ending.returned HZ.out, HB.out⟩
end Go.Proofs.Ytfijdlbcpmnbhaa
