/-
  Splitting a text: spec.l16Cut. Lists of texts of the call's own.
  The text of a library: spec.l2Line, spec.l2Text.
-/
import Derived.Test.YtpknegneogdmfaaGreatTxtS
import Derived.Test.YtpknegneogdmfaaGreatTree
import Derived.Maps.AppendAt
import Derived.Deep.CutRange
import Derived.Test.YtpknegneogdmfaaGreatTxtT
namespace Go.Proofs.YtpknegneogdmfaaGreat
open Go.RowKit
set_option maxRecDepth 100000

/-- The pieces between the bytes c. -/
def cutL (c : UInt8) : List UInt8 → List (List UInt8)
  | [] => [[]]
  | x :: r => if x = c then [] :: cutL c r else
    match cutL c r with
    | [] => [[x]]
    | h :: t => (x :: h) :: t
theorem cutL_ne (c : UInt8) : ∀ s, cutL c s ≠ []
  | [] => by simp [cutL]
  | x :: r => by
    unfold cutL
    split
    · simp
    · split <;> simp
def glue (p : List UInt8) : List (List UInt8) → List (List UInt8)
  | [] => [p]
  | h :: t => (p ++ h) :: t
theorem glue_step {c x : UInt8} (p r : List UInt8) (h : x ≠ c) : glue p (cutL c (x :: r)) = glue (p ++ [x]) (cutL c r) := by
  have hn := cutL_ne c r
  rw [cutL, if_neg h]
  cases hc : cutL c r with
  | nil => exact absurd hc hn
  | cons a b => simp [glue]
theorem glue_cut {c : UInt8} (p r : List UInt8) : glue p (cutL c (c :: r)) = p :: glue [] (cutL c r) := by
  have hn := cutL_ne c r
  rw [cutL, if_pos rfl]
  cases hc : cutL c r with
  | nil => exact absurd hc hn
  | cons a b => simp [glue]
theorem glue_nil (c : UInt8) (r : List UInt8) : glue [] (cutL c r) = cutL c r := by
  have hn := cutL_ne c r
  cases hc : cutL c r with
  | nil => exact absurd hc hn
  | cons a b => simp [glue]
theorem cutL_len (c : UInt8) : ∀ s, (cutL c s).length ≤ s.length + 1
  | [] => by simp [cutL]
  | x :: r => by
    have := cutL_len c r
    unfold cutL
    split
    · simp; omega
    · split
      · simp
      · rename_i h t e
        rw [e] at this
        simp at this ⊢
        omega

theorem idx_ofC {s : List UInt8} {e : Nat} {c : UInt8} (h : s[e]? = some c) : ∀ hs : e < (ByteArray.mk s.toArray).size, (ByteArray.mk s.toArray)[e]'hs = c := by
  intro hs
  obtain ⟨h1, h2⟩ := List.getElem?_eq_some_iff.1 h
  exact h2

theorem wpList_str {ops : Array Oper} {rest : List Oper} {o : Oper} {a : Act} {Q : Exit → Act → World → Prop} {wk : World} (hgd : o.guard = none) (s x : Operand)
    (ho : o.op = .call { callee := .builtin .append, args := #[s, x], argTypes := #[56, 56] })
    (base : Nat) (v : Value) (l : List (List UInt8)) (X : ByteArray) (hs : a.eval s = v) (hx : a.eval x = .slice (some ⟨wk.heap.size, 0, none⟩) 1 1)
    (hown : wk.ownsRow base 9 1 v l.length (l.map txt)) (hlen : l.length ≤ 100001) (hbase : base ≤ wk.heap.size)
    (h : ∀ v' w', w'.ownsRow base 9 1 v' (l.length + 1) (l.map txt ++ [.string X]) → wk.grownBy w' v.ownBlock → wpList Tryz.prog ops Q rest (a.put o.dst v') w') :
    wpList Tryz.prog ops Q (o :: rest) a (wk.alloc (.cells #[.string X] 9)) := by
  have hb := (Below.refl wk.heap.size wk).alloc (Nat.le_refl _) (.cells #[.string X] 9)
  have h1 := own_at (w' := wk.alloc (.cells #[.string X] 9)) hown fun g hg => hb.block g (hown.lt g hg).2
  obtain ⟨iT, hiT, hiz0, hiz1, hiz2⟩ := info_parts (show (Tryz.prog.info? 9).map (fun i => (i.zero, i.size, i.bytes)) = some (some (.string ⟨#[]⟩), 1, 16) by kernel_rfl)
  refine wpList_append_own_at _ hgd s x 56 ho base 9 iT _ 1 16 Tryz.underlying56 hiT hiz0 hiz1 hiz2 rfl (by decide) v l.length (l.map txt) hs h1 ⟨wk.heap.size, 0, none⟩ 1 1 [.string X] hx rfl
    (fresh_cells wk 9 _) ?_ (by unfold maxLen; omega) (by omega) (Nat.le_trans hbase hb.size) ?_
  · intro u hu
    simp at hu
    rcases hu with rfl
    rfl
  · intro v' w' ho' hg _ hblk
    exact h v' w' ho' ⟨hg.os, hg.tape, hg.output, Nat.le_trans hb.size hg.size, fun q hq hr => (hg.block q (Nat.lt_of_lt_of_le hq hb.size) hr).trans (hb.block q hq)⟩

/-- A list of texts that the call has made. -/
def StrsPost (l : List (List UInt8)) (w : World) (e : Ending) (w' : World) : Prop :=
  ∃ v, e = .returned v ∧ w'.ownsRow w.heap.size 9 1 v l.length (l.map txt) ∧ Below w.heap.size w w'

set_option maxHeartbeats 2000000 in
theorem l16Cut_any (s : List UInt8) (hs : s.length ≤ 100000) (c : UInt8) (x : Int) (hx : x = (c.toNat : Int)) (w : World) :
    Calls Tryz.prog 45 #[.string ⟨s.toArray⟩, .int .u8 x] w (StrsPost (cutL c s) w) := by
  subst hx
  have ho0 : (w.alloc (Obj.cells #[] 9)).ownsRow w.heap.size 9 1 (.slice (some ⟨w.heap.size, 0, none⟩) 0 0) 0 [] :=
    ⟨rfl, .inr ⟨w.heap.size, 0, #[], rfl, Nat.le_refl _, Row.fresh w 9 #[], Nat.le_refl _, by decide, rfl, rfl⟩⟩
  have HO0 := Lib.hid ho0
  have HB0 := Lib.hid (show Below w.heap.size w (w.alloc (Obj.cells #[] 9)) from (Below.refl _ _).alloc (Nat.le_refl _) _)
  obtain ⟨L, hL⟩ : ∃ L, L = cutL c s := ⟨_, rfl⟩
  rw [← hL]
  have HX := Lib.hid hL
  have HLEN := Lib.hid (show L.length ≤ 100001 by rw [hL]; have := cutL_len c s; omega)
  have hcl : c.toNat < 256 := c.toNat_lt
  clear ho0 hL
  go_enter Tryz.func45, Tryz.ntmps45
  go_wp2_with fail
  go_loopw [5, 6, 7] (fun v f u wr => ∃ (i fr : Nat) (l : List (List UInt8)) (v0 : Value), i ≤ s.length + 1 ∧ u = .int .i64 (i : Int) ∧ f = .int .i64 (fr : Int) ∧ v = v0 ∧ fr ≤ i ∧
      (i ≤ s.length → L = l ++ glue ((s.drop fr).take (i - fr)) (cutL c (s.drop i))) ∧ (s.length < i → L = l) ∧ l.length ≤ 100001 ∧ wr.ownsRow w.heap.size 9 1 v0 l.length (l.map txt) ∧ Below w.heap.size w wr) (fun _ _ u _ => s.length + 1 - (intOf u).toNat)
  case atStart => exact ⟨0, 0, [], _, by omega, rfl, rfl, rfl, Nat.le_refl _, fun _ => by rw [HX.out]; simp only [List.drop_zero, Nat.sub_self, List.take_zero, List.nil_append]; exact (glue_nil c s).symm, fun h => by omega, by simp, HO0.out, HB0.out⟩
  case round =>
    clear HO0 HB0 HX
    obtain ⟨i, fr, l, v0, hi, rfl, rfl, hv, hfr, hin, hout, hll, ho, hb⟩ := hrel
    obtain rfl := hv.symm
    have HO := Lib.hid ho
    have HB := Lib.hid hb
    have HLL := Lib.hid hll
    clear ho hb hll
    by_cases hle : i ≤ s.length
    rotate_left
    · have HF := Lib.hid (hout (by omega))
      clear hin hout
      go_wp2_with fail
      go_ret
      exact ⟨v0, rfl, by rw [HF.out]; exact HO.out, HB.out⟩
    have HG := Lib.hid (hin hle)
    clear hin hout
    by_cases hlt : i < s.length
    · obtain ⟨y, hy⟩ : ∃ y, s[i]? = some y := ⟨_, List.getElem?_eq_getElem hlt⟩
      have hix := idx_ofC hy
      have hdr : s.drop i = y :: s.drop (i + 1) := by
        obtain ⟨h1, h2⟩ := List.getElem?_eq_some_iff.1 hy
        rw [← h2]; exact List.drop_eq_getElem_cons h1
      have hne : ((i : Int) == (s.length : Int)) = false := by rw [beq_eq_false_iff_ne]; omega
      by_cases hyc : y = c
      · have hyn : ((y.toNat : Int) == (c.toNat : Int)) = true := by subst hyc; simp
        have HR := Lib.hid (show L = (l ++ [(s.drop fr).take (i - fr)]) ++ glue [] (cutL c (s.drop (i + 1))) by
          rw [HG.out, hdr, hyc, glue_cut, List.append_assoc]; rfl)
        have HL1 := Lib.hid (show l.length + 1 ≤ 100001 by
          have h := congrArg List.length HR.out
          have hz := HLEN.out
          rw [List.length_append, List.length_append, List.length_singleton] at h
          omega)
        clear hdr hyc
        have hsl : (ByteArray.mk s.toArray).extract fr i = ByteArray.mk ((s.drop fr).take (i - fr)).toArray := ByteArray.extract_mk s fr i
        have HSL := Lib.hid hsl
        have hfr2 : (fr : Int) ≤ (i : Int) := by omega
        have hle2 : (i : Int) ≤ (s.length : Int) := by omega
        obtain ⟨X, hX⟩ : ∃ X, X = (ByteArray.mk s.toArray).extract fr i := ⟨_, rfl⟩
        have hX2 : (ByteArray.mk s.toArray).extract fr i = X := hX.symm
        have HXT := Lib.hid (show Value.string X = txt ((s.drop fr).take (i - fr)) by rw [hX, hsl]; rfl)
        clear hsl hX
        go_wp2_with (at_builtin; refine wpList_str rfl _ _ rfl w.heap.size v0 l X rfl rfl HO.out (by have := HLL.out; omega) HB.out.size ?_; intro v6 w6 ho6 hg6; have HO6 := Lib.hid ho6; have HG6 := Lib.hid hg6; clear ho6 hg6)
        go_roundw
        case rel =>
          refine ⟨i + 1, i + 1, l ++ [(s.drop fr).take (i - fr)], _, by omega, by go_num, by go_num, rfl, Nat.le_refl _, fun _ => by rw [HR.out, Nat.sub_self, List.take_zero], fun h => by omega, by rw [List.length_append, List.length_singleton]; exact HL1.out, by rw [List.length_append, List.length_singleton, List.map_append, List.map_singleton, ← HXT.out]; exact HO6.out, Below.grown HB.out HG6.out HB.out.size (fun g' hg' => (HO.out.lt g' hg').1)⟩
        case measure => simp [intOf]; omega
      · have HR := Lib.hid (show L = l ++ glue ((s.drop fr).take (i + 1 - fr)) (cutL c (s.drop (i + 1))) by
          rw [HG.out, hdr, glue_step _ _ hyc]
          congr 2
          have e1 : i + 1 - fr = (i - fr) + 1 := by omega
          rw [e1, List.take_add_one, List.getElem?_drop, show fr + (i - fr) = i by omega, hy]
          rfl)
        have hyn : ((y.toNat : Int) == (c.toNat : Int)) = false := by
          rw [beq_eq_false_iff_ne]; exact fun h => hyc (UInt8.toNat_inj.1 (by omega))
        clear hdr hyc
        go_wp2_with fail
        go_roundw
        case rel => exact ⟨i + 1, fr, l, _, by omega, by go_num, rfl, rfl, by omega, fun _ => HR.out, fun h => by omega, HLL.out, HO.out, HB.out⟩
        case measure => simp [intOf]; omega
    · have hie : i = s.length := by omega
      have hne : ((i : Int) == (s.length : Int)) = true := by rw [beq_iff_eq]; omega
      have HR := Lib.hid (show L = l ++ [(s.drop fr).take (i - fr)] by
        rw [HG.out, hie, List.drop_length]; simp [cutL, glue])
      have HL1 := Lib.hid (show l.length + 1 ≤ 100001 by
        have h := congrArg List.length HR.out
        have hz := HLEN.out
        rw [List.length_append, List.length_singleton] at h
        omega)
      clear hie
      have hsl : (ByteArray.mk s.toArray).extract fr i = ByteArray.mk ((s.drop fr).take (i - fr)).toArray := ByteArray.extract_mk s fr i
      have HSL := Lib.hid hsl
      have hfr2 : (fr : Int) ≤ (i : Int) := by omega
      have hle2 : (i : Int) ≤ (s.length : Int) := by omega
      obtain ⟨X, hX⟩ : ∃ X, X = (ByteArray.mk s.toArray).extract fr i := ⟨_, rfl⟩
      have hX2 : (ByteArray.mk s.toArray).extract fr i = X := hX.symm
      have HXT := Lib.hid (show Value.string X = txt ((s.drop fr).take (i - fr)) by rw [hX, hsl]; rfl)
      clear hsl hX
      go_wp2_with (at_builtin; refine wpList_str rfl _ _ rfl w.heap.size v0 l X rfl rfl HO.out (by have := HLL.out; omega) HB.out.size ?_; intro v6 w6 ho6 hg6; have HO6 := Lib.hid ho6; have HG6 := Lib.hid hg6; clear ho6 hg6)
      go_roundw
      case rel =>
        refine ⟨i + 1, i + 1, l ++ [(s.drop fr).take (i - fr)], _, by omega, by go_num, by go_num, rfl, Nat.le_refl _, fun h => by omega, fun _ => HR.out, by rw [List.length_append, List.length_singleton]; exact HL1.out, by rw [List.length_append, List.length_singleton, List.map_append, List.map_singleton, ← HXT.out]; exact HO6.out, Below.grown HB.out HG6.out HB.out.size (fun g' hg' => (HO.out.lt g' hg').1)⟩
      case measure => simp [intOf]; omega
end Go.Proofs.YtpknegneogdmfaaGreat

namespace Go.Proofs.YtpknegneogdmfaaGreat
open Go.RowKit
set_option maxRecDepth 100000

def lineT (d : De) : List UInt8 := letL 65 d.nm ++ decL d.ar ++ [if d.old then 126 else 61] ++ txtN d.op d.n d.k
def libT : List De → List UInt8
  | [] => []
  | d :: r => lineT d ++ [10] ++ libT r
/-- May the function be written? -/
def okLine (d : De) : Prop := (0 ≤ d.nm ∧ d.nm < 26) ∧ (0 ≤ d.ar ∧ d.ar ≤ 99) ∧ okT d.op d.n d.k = true
theorem lineT_len (d : De) : (lineT d).length ≤ 6 * d.k.size + 9 := by
  have h1 := decL_len d.ar
  have h2 := txtN_len d.op d.n d.k
  simp only [lineT, letL, List.length_append, List.length_cons, List.length_nil]
  omega
theorem libT_len : ∀ ds : List De, (libT ds).length ≤ 10 * sizeD ds
  | [] => by simp [libT, sizeD]
  | d :: r => by
    have h1 := lineT_len d
    have h2 := libT_len r
    simp only [libT, sizeD, List.length_append, List.length_cons, List.length_nil]
    omega
theorem libT_take : ∀ (ds : List De) (j : Nat) (d : De), ds[j]? = some d → libT (ds.take (j + 1)) = libT (ds.take j) ++ lineT d ++ [10]
  | [], j, d, h => by simp at h
  | e :: r, 0, d, h => by simp at h; subst h; simp [libT]
  | e :: r, j + 1, d, h => by
    have := libT_take r j d (by simpa using h)
    simp only [List.take_succ_cons, libT, this, List.append_assoc]

set_option maxHeartbeats 2000000 in
theorem line_true (d : De) (hold : d.old = true) (hok : okLine d) (hz : d.k.size ≤ 1048576) (A : Option Addr) (c : Nat) (w : World) (hl : Lies w 0 w.heap.size A 0 d.k) :
    Calls Tryz.prog 63 #[.agg #[.int .i64 d.nm, .int .i64 d.ar, .bool d.old, .int .i64 d.op, .int .i64 d.n, .slice A d.k.len c]] w (Gives (txt (lineT d)) w) := by
  obtain ⟨⟨hn0, hn1⟩, ⟨ha0, ha1⟩, hokt⟩ := hok
  obtain ⟨W, hW⟩ : ∃ W, W = w.alloc (Obj.cells #[.int .i64 d.nm, .int .i64 d.ar, .bool true, .int .i64 d.op, .int .i64 d.n, .slice A d.k.len c] 38) := ⟨_, rfl⟩
  have hb0 : Below w.heap.size w W := by rw [hW]; exact (Below.refl _ _).alloc (Nat.le_refl _) _
  have HR0 := Lib.hid (show Row W w.heap.size 38 #[.int .i64 d.nm, .int .i64 d.ar, .bool true, .int .i64 d.op, .int .i64 d.n, .slice A d.k.len c] by rw [hW]; exact Row.fresh _ _ _)
  have hS : ∀ w' : World, Below W.heap.size W w' → w'.cell? ⟨w.heap.size, 0, none⟩ = some (Value.int .i64 d.nm) ∧ w'.cell? ⟨w.heap.size, 1, none⟩ = some (Value.int .i64 d.ar) ∧ w'.cell? ⟨w.heap.size, 2, none⟩ = some (Value.bool true) ∧ w'.cell? ⟨w.heap.size, 3, none⟩ = some (Value.int .i64 d.op) ∧ w'.cell? ⟨w.heap.size, 4, none⟩ = some (Value.int .i64 d.n) ∧ w'.cell? ⟨w.heap.size, 5, none⟩ = some (Value.slice A d.k.len c) := fun w' hb => ⟨(hb.cell (p := ⟨w.heap.size, 0, none⟩) HR0.out.size).trans (HR0.out.cell (i := 0) rfl), (hb.cell (p := ⟨w.heap.size, 1, none⟩) HR0.out.size).trans (HR0.out.cell (i := 1) rfl), (hb.cell (p := ⟨w.heap.size, 2, none⟩) HR0.out.size).trans (HR0.out.cell (i := 2) rfl), (hb.cell (p := ⟨w.heap.size, 3, none⟩) HR0.out.size).trans (HR0.out.cell (i := 3) rfl), (hb.cell (p := ⟨w.heap.size, 4, none⟩) HR0.out.size).trans (HR0.out.cell (i := 4) rfl), (hb.cell (p := ⟨w.heap.size, 5, none⟩) HR0.out.size).trans (HR0.out.cell (i := 5) rfl)⟩
  have HS := Lib.hid hS
  have HB0 := Lib.hid hb0
  have b0 : Below W.heap.size W W.drew := (Below.refl _ _).drew
  have s0 := HS.out _ b0
  have B0 := Lib.hid b0
  obtain ⟨y, hy⟩ : ∃ y, y = UInt8.ofNat (65 + d.nm.toNat) := ⟨_, rfl⟩
  have HCA := Lib.hid (show ∀ w', Calls Tryz.prog 80 #[.int .u8 65, .int .i64 d.nm] w' (Gives (.string ⟨#[y]⟩) w') from fun w' => l1Letter_any y 65 d.nm (by decide) hn0 (by rw [hy, UInt8.toNat_ofNat', Nat.mod_eq_of_lt (by omega)]; omega) w')
  obtain ⟨z, hz2⟩ : ∃ z, z = ByteArray.mk (decL d.ar).toArray := ⟨_, rfl⟩
  have HCD := Lib.hid (show ∀ w', Calls Tryz.prog 79 #[.int .i64 d.ar] w' (Gives (.string z) w') from fun w' => by rw [hz2]; exact l16Dec_any d.ar ha0 ha1 w')
  obtain ⟨x, hx⟩ : ∃ x, x = ByteArray.mk (txtN d.op d.n d.k).toArray := ⟨_, rfl⟩
  have HCT := Lib.hid (fun (w' : World) (hb' : Below W.heap.size W w') => show Calls Tryz.prog 62 #[.agg #[.int .i64 d.op, .int .i64 d.n, .slice A d.k.len c]] w' (Gives (.string x) w') by rw [hx]; exact l1Text_any d.op d.n d.k A c w' ((hl.up hb0).up hb') hz hokt)
  have hxz : x.size ≤ 7000000 := by rw [hx]; exact text_size _ _ _ hz
  have hzz : z.size ≤ 2 := by rw [hz2]; exact decL_len _
  have hs1 : ¬ 9223372036854775807 < 1 + z.size := by omega
  have hs2 : ¬ 9223372036854775807 < 1 + z.size + 1 := by omega
  have hs3 : ¬ 9223372036854775807 < 1 + z.size + 1 + x.size := by omega
  have HT := Lib.hid (show txt (lineT d) = .string (ByteArray.mk #[y] ++ z ++ ByteArray.mk #[126] ++ x) by
    rw [hx, hz2, hy]
    unfold lineT
    rw [hold]
    refine congrArg Value.string ?_
    simp only [← ByteArray.mk_append_mk]
    rfl)
  rw [HT.out, hold]
  clear hx hz2 hy hb0 hS b0 hl hz hold hn0 hn1 ha0 ha1 hokt
  go_enter Tryz.func63, Tryz.ntmps63
  go_upto_region 1 with fail
  rw [← hW]
  clear hW
  have q2 : W.cell? ⟨w.heap.size, 2, none⟩ = some (.bool true) := HR0.out.cell (i := 2) rfl
  go_upto_region 4 with fail
  clear q2
  go_region_held3 (fun w' => w'.cell? ⟨w.heap.size, 0, none⟩ = some (Value.int .i64 d.nm) ∧ w'.cell? ⟨w.heap.size, 1, none⟩ = some (Value.int .i64 d.ar) ∧ w'.cell? ⟨w.heap.size, 2, none⟩ = some (Value.bool true) ∧ w'.cell? ⟨w.heap.size, 3, none⟩ = some (Value.int .i64 d.op) ∧ w'.cell? ⟨w.heap.size, 4, none⟩ = some (Value.int .i64 d.n) ∧ w'.cell? ⟨w.heap.size, 5, none⟩ = some (Value.slice A d.k.len c))
    (first | with_reducible exact s0 | with_reducible exact s1 | with_reducible exact s2 | with_reducible exact s3 | fail)
    (first
      | (go_at_call 62
         with_reducible refine (HCT.out _ B2.out).mono ?_
         rintro e w3 ⟨rfl, hb3⟩
         have b3 := B2.out.trans (hb3.mono B2.out.size)
         have B3 := Lib.hid b3
         have s3 := HS.out _ b3
         clear hb3 b3)
      | (go_at_call 79
         with_reducible refine (HCD.out _).mono ?_
         rintro e w2 ⟨rfl, hb2⟩
         have b2 := B1.out.trans (hb2.mono B1.out.size)
         have B2 := Lib.hid b2
         have s2 := HS.out _ b2
         clear hb2 b2)
      | (go_at_call 80
         with_reducible refine (HCA.out _).mono ?_
         rintro e w1 ⟨rfl, hb1⟩
         have b1 := B0.out.trans (hb1.mono B0.out.size)
         have B1 := Lib.hid b1
         have s1 := HS.out _ b1
         clear hb1 b1)
      | fail)
  all_goals
    have HBZ := Lib.hid (HB0.out.trans (B3.out.mono HB0.out.size))
    clear s0 s1 s2 s3
    go_wp2
    go_ret
    exact ⟨rfl, HBZ.out⟩

set_option maxHeartbeats 2000000 in
theorem line_false (d : De) (hold : d.old = false) (hok : okLine d) (hz : d.k.size ≤ 1048576) (A : Option Addr) (c : Nat) (w : World) (hl : Lies w 0 w.heap.size A 0 d.k) :
    Calls Tryz.prog 63 #[.agg #[.int .i64 d.nm, .int .i64 d.ar, .bool d.old, .int .i64 d.op, .int .i64 d.n, .slice A d.k.len c]] w (Gives (txt (lineT d)) w) := by
  obtain ⟨⟨hn0, hn1⟩, ⟨ha0, ha1⟩, hokt⟩ := hok
  obtain ⟨W, hW⟩ : ∃ W, W = w.alloc (Obj.cells #[.int .i64 d.nm, .int .i64 d.ar, .bool false, .int .i64 d.op, .int .i64 d.n, .slice A d.k.len c] 38) := ⟨_, rfl⟩
  have hb0 : Below w.heap.size w W := by rw [hW]; exact (Below.refl _ _).alloc (Nat.le_refl _) _
  have HR0 := Lib.hid (show Row W w.heap.size 38 #[.int .i64 d.nm, .int .i64 d.ar, .bool false, .int .i64 d.op, .int .i64 d.n, .slice A d.k.len c] by rw [hW]; exact Row.fresh _ _ _)
  have hS : ∀ w' : World, Below W.heap.size W w' → w'.cell? ⟨w.heap.size, 0, none⟩ = some (Value.int .i64 d.nm) ∧ w'.cell? ⟨w.heap.size, 1, none⟩ = some (Value.int .i64 d.ar) ∧ w'.cell? ⟨w.heap.size, 2, none⟩ = some (Value.bool false) ∧ w'.cell? ⟨w.heap.size, 3, none⟩ = some (Value.int .i64 d.op) ∧ w'.cell? ⟨w.heap.size, 4, none⟩ = some (Value.int .i64 d.n) ∧ w'.cell? ⟨w.heap.size, 5, none⟩ = some (Value.slice A d.k.len c) := fun w' hb => ⟨(hb.cell (p := ⟨w.heap.size, 0, none⟩) HR0.out.size).trans (HR0.out.cell (i := 0) rfl), (hb.cell (p := ⟨w.heap.size, 1, none⟩) HR0.out.size).trans (HR0.out.cell (i := 1) rfl), (hb.cell (p := ⟨w.heap.size, 2, none⟩) HR0.out.size).trans (HR0.out.cell (i := 2) rfl), (hb.cell (p := ⟨w.heap.size, 3, none⟩) HR0.out.size).trans (HR0.out.cell (i := 3) rfl), (hb.cell (p := ⟨w.heap.size, 4, none⟩) HR0.out.size).trans (HR0.out.cell (i := 4) rfl), (hb.cell (p := ⟨w.heap.size, 5, none⟩) HR0.out.size).trans (HR0.out.cell (i := 5) rfl)⟩
  have HS := Lib.hid hS
  have HB0 := Lib.hid hb0
  have b0 : Below W.heap.size W W.drew := (Below.refl _ _).drew
  have s0 := HS.out _ b0
  have B0 := Lib.hid b0
  obtain ⟨y, hy⟩ : ∃ y, y = UInt8.ofNat (65 + d.nm.toNat) := ⟨_, rfl⟩
  have HCA := Lib.hid (show ∀ w', Calls Tryz.prog 80 #[.int .u8 65, .int .i64 d.nm] w' (Gives (.string ⟨#[y]⟩) w') from fun w' => l1Letter_any y 65 d.nm (by decide) hn0 (by rw [hy, UInt8.toNat_ofNat', Nat.mod_eq_of_lt (by omega)]; omega) w')
  obtain ⟨z, hz2⟩ : ∃ z, z = ByteArray.mk (decL d.ar).toArray := ⟨_, rfl⟩
  have HCD := Lib.hid (show ∀ w', Calls Tryz.prog 79 #[.int .i64 d.ar] w' (Gives (.string z) w') from fun w' => by rw [hz2]; exact l16Dec_any d.ar ha0 ha1 w')
  obtain ⟨x, hx⟩ : ∃ x, x = ByteArray.mk (txtN d.op d.n d.k).toArray := ⟨_, rfl⟩
  have HCT := Lib.hid (fun (w' : World) (hb' : Below W.heap.size W w') => show Calls Tryz.prog 62 #[.agg #[.int .i64 d.op, .int .i64 d.n, .slice A d.k.len c]] w' (Gives (.string x) w') by rw [hx]; exact l1Text_any d.op d.n d.k A c w' ((hl.up hb0).up hb') hz hokt)
  have hxz : x.size ≤ 7000000 := by rw [hx]; exact text_size _ _ _ hz
  have hzz : z.size ≤ 2 := by rw [hz2]; exact decL_len _
  have hs1 : ¬ 9223372036854775807 < 1 + z.size := by omega
  have hs2 : ¬ 9223372036854775807 < 1 + z.size + 1 := by omega
  have hs3 : ¬ 9223372036854775807 < 1 + z.size + 1 + x.size := by omega
  have HT := Lib.hid (show txt (lineT d) = .string (ByteArray.mk #[y] ++ z ++ ByteArray.mk #[61] ++ x) by
    rw [hx, hz2, hy]
    unfold lineT
    rw [hold]
    refine congrArg Value.string ?_
    simp only [← ByteArray.mk_append_mk]
    rfl)
  rw [HT.out, hold]
  clear hx hz2 hy hb0 hS b0 hl hz hold hn0 hn1 ha0 ha1 hokt
  go_enter Tryz.func63, Tryz.ntmps63
  go_upto_region 1 with fail
  rw [← hW]
  clear hW
  have q2 : W.cell? ⟨w.heap.size, 2, none⟩ = some (.bool false) := HR0.out.cell (i := 2) rfl
  go_upto_region 4 with fail
  clear q2
  go_region_held3 (fun w' => w'.cell? ⟨w.heap.size, 0, none⟩ = some (Value.int .i64 d.nm) ∧ w'.cell? ⟨w.heap.size, 1, none⟩ = some (Value.int .i64 d.ar) ∧ w'.cell? ⟨w.heap.size, 2, none⟩ = some (Value.bool false) ∧ w'.cell? ⟨w.heap.size, 3, none⟩ = some (Value.int .i64 d.op) ∧ w'.cell? ⟨w.heap.size, 4, none⟩ = some (Value.int .i64 d.n) ∧ w'.cell? ⟨w.heap.size, 5, none⟩ = some (Value.slice A d.k.len c))
    (first | with_reducible exact s0 | with_reducible exact s1 | with_reducible exact s2 | with_reducible exact s3 | fail)
    (first
      | (go_at_call 62
         with_reducible refine (HCT.out _ B2.out).mono ?_
         rintro e w3 ⟨rfl, hb3⟩
         have b3 := B2.out.trans (hb3.mono B2.out.size)
         have B3 := Lib.hid b3
         have s3 := HS.out _ b3
         clear hb3 b3)
      | (go_at_call 79
         with_reducible refine (HCD.out _).mono ?_
         rintro e w2 ⟨rfl, hb2⟩
         have b2 := B1.out.trans (hb2.mono B1.out.size)
         have B2 := Lib.hid b2
         have s2 := HS.out _ b2
         clear hb2 b2)
      | (go_at_call 80
         with_reducible refine (HCA.out _).mono ?_
         rintro e w1 ⟨rfl, hb1⟩
         have b1 := B0.out.trans (hb1.mono B0.out.size)
         have B1 := Lib.hid b1
         have s1 := HS.out _ b1
         clear hb1 b1)
      | fail)
  all_goals
    have HBZ := Lib.hid (HB0.out.trans (B3.out.mono HB0.out.size))
    clear s0 s1 s2 s3
    go_wp2
    go_ret
    exact ⟨rfl, HBZ.out⟩

theorem l2Line_any (d : De) (hok : okLine d) (hz : d.k.size ≤ 1048576) (A : Option Addr) (c : Nat) (w : World) (hl : Lies w 0 w.heap.size A 0 d.k) :
    Calls Tryz.prog 63 #[.agg #[.int .i64 d.nm, .int .i64 d.ar, .bool d.old, .int .i64 d.op, .int .i64 d.n, .slice A d.k.len c]] w (Gives (txt (lineT d)) w) := by
  cases h : d.old with
  | true => have := line_true d h hok hz A c w hl; rwa [h] at this
  | false => have := line_false d h hok hz A c w hl; rwa [h] at this

set_option maxHeartbeats 2000000 in
theorem l2Text_any (ds : List De) (hok : ∀ d ∈ ds, okLine d) (hz : sizeD ds ≤ 1048576) (A : Option Addr) (c : Nat) (w : World) (hl : LiesD w 0 w.heap.size A ds) :
    Calls Tryz.prog 47 #[.slice A ds.length c] w (Gives (txt (libT ds)) w) := by
  have HL := Lib.hid hl
  have HOK := Lib.hid hok
  have hdl := sizeD_len ds
  clear hl hok
  go_enter Tryz.func47, Tryz.ntmps47
  go_wp2_with fail
  go_loopw [3, 4] (fun v u wr => ∃ (j : Nat), j ≤ ds.length ∧ u = .int .i64 (j : Int) ∧ v = txt (libT (ds.take j)) ∧ Below w.heap.size w wr) (fun _ u _ => ds.length - (intOf u).toNat)
  case atStart => exact ⟨0, by omega, rfl, rfl, Below.refl _ _⟩
  case round =>
    obtain ⟨j, hj, rfl, rfl, hb⟩ := hrel
    have HB := Lib.hid hb
    obtain ⟨s, hs⟩ : ∃ s, s = ByteArray.mk (libT (ds.take j)).toArray := ⟨_, rfl⟩
    have hsz : s.size ≤ 20000000 := by
      have h1 := libT_len (ds.take j)
      have h2 : sizeD (ds.take j) ≤ sizeD ds := by
        have : ∀ (l : List De) (n : Nat), sizeD (l.take n) ≤ sizeD l := fun l => by
          induction l with
          | nil => intro n; simp
          | cons d r ih => intro n; cases n with
            | zero => simp [sizeD]
            | succ n => have := ih n; simp only [List.take_succ_cons, sizeD]; omega
        exact this ds j
      rw [hs]
      show (libT (ds.take j)).length ≤ 20000000
      omega
    rw [show txt (libT (ds.take j)) = .string s by rw [hs]; rfl]
    by_cases hlt : j < ds.length
    · have e1 := List.getElem?_eq_getElem hlt
      generalize ds[j] = d at e1
      have hd := (HL.out.up hb) j d e1
      obtain ⟨b, o, A', c', hA, _, hbb, hf, g0, g1, g2, g3, g4, g5, h1, h2, hld⟩ := hd
      subst hA
      obtain ⟨x, hx⟩ : ∃ x, x = ByteArray.mk (lineT d).toArray := ⟨_, rfl⟩
      have hdz := sizeD_at e1
      have hxz : x.size ≤ 7000000 := by
        have := lineT_len d
        rw [hx]
        show (lineT d).length ≤ 7000000
        omega
      have HC := Lib.hid (show Calls Tryz.prog 63 #[.agg #[.int .i64 d.nm, .int .i64 d.ar, .bool d.old, .int .i64 d.op, .int .i64 d.n, .slice A' d.k.len c']] wr (Gives (.string x) wr) by
        rw [hx]; exact l2Line_any d (HOK.out d (List.mem_of_getElem? e1)) (by omega) A' c' wr hld)
      have HN := Lib.hid (show txt (libT (ds.take (j + 1))) = .string (s ++ x ++ ByteArray.mk #[10]) by
        rw [libT_take ds j d e1, hs, hx]
        refine congrArg Value.string ?_
        simp only [← ByteArray.mk_append_mk])
      clear hx hs hld e1 hb
      go_wp2_with fail
      refine HC.out.mono ?_
      rintro e w1 ⟨rfl, hb1⟩
      have HB1 := Lib.hid (HB.out.trans (hb1.mono HB.out.size))
      clear hb1 g0 g1 g2 g3 g4 g5 HC HB
      go_wp2_with fail
      go_roundw
      case rel => exact ⟨j + 1, hlt, by go_num, HN.out.symm, HB1.out⟩
      case measure => simp [intOf]; omega
    · have e9 : j = ds.length := by omega
      have HZ := Lib.hid (show Value.string s = txt (libT ds) by rw [hs, e9, List.take_length]; rfl)
      clear hs hb
      go_wp2_with fail
      go_ret
      exact ⟨congrArg Ending.returned HZ.out, HB.out⟩
end Go.Proofs.YtpknegneogdmfaaGreat
