/-
  Splitting a text: spec.l16Cut. Lists of texts of the call's own.
-/
import Derived.Test.YtfijdlbcpmnbhaaTxtS
import Derived.Test.YtfijdlbcpmnbhaaTree
import Derived.Maps.AppendAt
import Derived.Deep.CutRange
namespace Go.Proofs.Ytfijdlbcpmnbhaa
open Go.RowKit
set_option maxRecDepth 100000

/-- The pieces between the bytes c. -/
def cutL (c : UInt8) : List UInt8 → List (List UInt8)
  | [] => [[]]
  | x :: r => if x = c then [] :: cutL c r else
    match cutL c r with
    | [] => [[x]]
    | h :: t => (x :: h) :: t
theorem cutL_ne (c : UInt8) : ∀ s, cutL c s ≠ []
  | [] => by simp [cutL]
  | x :: r => by
    unfold cutL
    split
    · simp
    · split <;> simp
def glue (p : List UInt8) : List (List UInt8) → List (List UInt8)
  | [] => [p]
  | h :: t => (p ++ h) :: t
theorem glue_step {c x : UInt8} (p r : List UInt8) (h : x ≠ c) : glue p (cutL c (x :: r)) = glue (p ++ [x]) (cutL c r) := by
  have hn := cutL_ne c r
  rw [cutL, if_neg h]
  cases hc : cutL c r with
  | nil => exact absurd hc hn
  | cons a b => simp [glue]
theorem glue_cut {c : UInt8} (p r : List UInt8) : glue p (cutL c (c :: r)) = p :: glue [] (cutL c r) := by
  have hn := cutL_ne c r
  rw [cutL, if_pos rfl]
  cases hc : cutL c r with
  | nil => exact absurd hc hn
  | cons a b => simp [glue]
theorem glue_nil (c : UInt8) (r : List UInt8) : glue [] (cutL c r) = cutL c r := by
  have hn := cutL_ne c r
  cases hc : cutL c r with
  | nil => exact absurd hc hn
  | cons a b => simp [glue]
theorem cutL_len (c : UInt8) : ∀ s, (cutL c s).length ≤ s.length + 1
  | [] => by simp [cutL]
  | x :: r => by
    have := cutL_len c r
    unfold cutL
    split
    · simp; omega
    · split
      · simp
      · rename_i h t e
        rw [e] at this
        simp at this ⊢
        omega

theorem idx_ofC {s : List UInt8} {e : Nat} {c : UInt8} (h : s[e]? = some c) : ∀ hs : e < (ByteArray.mk s.toArray).size, (ByteArray.mk s.toArray)[e]'hs = c := by
  intro hs
  obtain ⟨h1, h2⟩ := List.getElem?_eq_some_iff.1 h
  exact h2

theorem wpList_str {ops : Array Oper} {rest : List Oper} {o : Oper} {a : Act} {Q : Exit → Act → World → Prop} {wk : World} (hgd : o.guard = none) (s x : Operand)
    (ho : o.op = .call { callee := .builtin .append, args := #[s, x], argTypes := #[77, 77] })
    (base : Nat) (v : Value) (l : List (List UInt8)) (X : ByteArray) (hs : a.eval s = v) (hx : a.eval x = .slice (some ⟨wk.heap.size, 0, none⟩) 1 1)
    (hown : wk.ownsRow base 9 1 v l.length (l.map txt)) (hlen : l.length ≤ 100001) (hbase : base ≤ wk.heap.size)
    (h : ∀ v' w', w'.ownsRow base 9 1 v' (l.length + 1) (l.map txt ++ [.string X]) → wk.grownBy w' v.ownBlock → wpList Try.prog ops Q rest (a.put o.dst v') w') :
    wpList Try.prog ops Q (o :: rest) a (wk.alloc (.cells #[.string X] 9)) := by
  have hb := (Below.refl wk.heap.size wk).alloc (Nat.le_refl _) (.cells #[.string X] 9)
  have h1 := own_at (w' := wk.alloc (.cells #[.string X] 9)) hown fun g hg => hb.block g (hown.lt g hg).2
  obtain ⟨iT, hiT, hiz0, hiz1, hiz2⟩ := info_parts (show (Try.prog.info? 9).map (fun i => (i.zero, i.size, i.bytes)) = some (some (.string ⟨#[]⟩), 1, 16) by kernel_rfl)
  refine wpList_append_own_at _ hgd s x 77 ho base 9 iT _ 1 16 Try.underlying77 hiT hiz0 hiz1 hiz2 rfl (by decide) v l.length (l.map txt) hs h1 ⟨wk.heap.size, 0, none⟩ 1 1 [.string X] hx rfl
    (fresh_cells wk 9 _) ?_ (by unfold maxLen; omega) (by omega) (Nat.le_trans hbase hb.size) ?_
  · intro u hu
    simp at hu
    rcases hu with rfl
    rfl
  · intro v' w' ho' hg _ hblk
    exact h v' w' ho' ⟨hg.os, hg.tape, hg.output, Nat.le_trans hb.size hg.size, fun q hq hr => (hg.block q (Nat.lt_of_lt_of_le hq hb.size) hr).trans (hb.block q hq)⟩

/-- A list of texts that the call has made. -/
def StrsPost (l : List (List UInt8)) (w : World) (e : Ending) (w' : World) : Prop :=
  ∃ v, e = .returned v ∧ w'.ownsRow w.heap.size 9 1 v l.length (l.map txt) ∧ Below w.heap.size w w'

set_option maxHeartbeats 2000000 in
theorem l16Cut_any (s : List UInt8) (hs : s.length ≤ 100000) (c : UInt8) (x : Int) (hx : x = (c.toNat : Int)) (w : World) :
    Calls Try.prog 69 #[.string ⟨s.toArray⟩, .int .u8 x] w (StrsPost (cutL c s) w) := by
  subst hx
  have ho0 : (w.alloc (Obj.cells #[] 9)).ownsRow w.heap.size 9 1 (.slice (some ⟨w.heap.size, 0, none⟩) 0 0) 0 [] :=
    ⟨rfl, .inr ⟨w.heap.size, 0, #[], rfl, Nat.le_refl _, Row.fresh w 9 #[], Nat.le_refl _, by decide, rfl, rfl⟩⟩
  have HO0 := Lib.hid ho0
  have HB0 := Lib.hid (show Below w.heap.size w (w.alloc (Obj.cells #[] 9)) from (Below.refl _ _).alloc (Nat.le_refl _) _)
  obtain ⟨L, hL⟩ : ∃ L, L = cutL c s := ⟨_, rfl⟩
  rw [← hL]
  have HX := Lib.hid hL
  have HLEN := Lib.hid (show L.length ≤ 100001 by rw [hL]; have := cutL_len c s; omega)
  have hcl : c.toNat < 256 := c.toNat_lt
  clear ho0 hL
  go_enter Try.func69, Try.ntmps69
  go_wp2_with fail
  go_loopw [5, 6, 7] (fun v f u wr => ∃ (i fr : Nat) (l : List (List UInt8)) (v0 : Value), i ≤ s.length + 1 ∧ u = .int .i64 (i : Int) ∧ f = .int .i64 (fr : Int) ∧ v = v0 ∧ fr ≤ i ∧
      (i ≤ s.length → L = l ++ glue ((s.drop fr).take (i - fr)) (cutL c (s.drop i))) ∧ (s.length < i → L = l) ∧ l.length ≤ 100001 ∧ wr.ownsRow w.heap.size 9 1 v0 l.length (l.map txt) ∧ Below w.heap.size w wr) (fun _ _ u _ => s.length + 1 - (intOf u).toNat)
  case atStart => exact ⟨0, 0, [], _, by omega, rfl, rfl, rfl, Nat.le_refl _, fun _ => by rw [HX.out]; simp only [List.drop_zero, Nat.sub_self, List.take_zero, List.nil_append]; exact (glue_nil c s).symm, fun h => by omega, by simp, HO0.out, HB0.out⟩
  case round =>
    clear HO0 HB0 HX
    obtain ⟨i, fr, l, v0, hi, rfl, rfl, hv, hfr, hin, hout, hll, ho, hb⟩ := hrel
    obtain rfl := hv.symm
    have HO := Lib.hid ho
    have HB := Lib.hid hb
    have HLL := Lib.hid hll
    clear ho hb hll
    by_cases hle : i ≤ s.length
    rotate_left
    · have HF := Lib.hid (hout (by omega))
      clear hin hout
      go_wp2_with fail
      go_ret
      exact ⟨v0, rfl, by rw [HF.out]; exact HO.out, HB.out⟩
    have HG := Lib.hid (hin hle)
    clear hin hout
    by_cases hlt : i < s.length
    · obtain ⟨y, hy⟩ : ∃ y, s[i]? = some y := ⟨_, List.getElem?_eq_getElem hlt⟩
      have hix := idx_ofC hy
      have hdr : s.drop i = y :: s.drop (i + 1) := by
        obtain ⟨h1, h2⟩ := List.getElem?_eq_some_iff.1 hy
        rw [← h2]; exact List.drop_eq_getElem_cons h1
      have hne : ((i : Int) == (s.length : Int)) = false := by rw [beq_eq_false_iff_ne]; omega
      by_cases hyc : y = c
      · have hyn : ((y.toNat : Int) == (c.toNat : Int)) = true := by subst hyc; simp
        have HR := Lib.hid (show L = (l ++ [(s.drop fr).take (i - fr)]) ++ glue [] (cutL c (s.drop (i + 1))) by
          rw [HG.out, hdr, hyc, glue_cut, List.append_assoc]; rfl)
        have HL1 := Lib.hid (show l.length + 1 ≤ 100001 by
          have h := congrArg List.length HR.out
          have hz := HLEN.out
          rw [List.length_append, List.length_append, List.length_singleton] at h
          omega)
        clear hdr hyc
        have hsl : (ByteArray.mk s.toArray).extract fr i = ByteArray.mk ((s.drop fr).take (i - fr)).toArray := ByteArray.extract_mk s fr i
        have HSL := Lib.hid hsl
        have hfr2 : (fr : Int) ≤ (i : Int) := by omega
        have hle2 : (i : Int) ≤ (s.length : Int) := by omega
        obtain ⟨X, hX⟩ : ∃ X, X = (ByteArray.mk s.toArray).extract fr i := ⟨_, rfl⟩
        have hX2 : (ByteArray.mk s.toArray).extract fr i = X := hX.symm
        have HXT := Lib.hid (show Value.string X = txt ((s.drop fr).take (i - fr)) by rw [hX, hsl]; rfl)
        clear hsl hX
        go_wp2_with (at_builtin; refine wpList_str rfl _ _ rfl w.heap.size v0 l X rfl rfl HO.out (by have := HLL.out; omega) HB.out.size ?_; intro v6 w6 ho6 hg6; have HO6 := Lib.hid ho6; have HG6 := Lib.hid hg6; clear ho6 hg6)
        go_roundw
        case rel =>
          refine ⟨i + 1, i + 1, l ++ [(s.drop fr).take (i - fr)], _, by omega, by go_num, by go_num, rfl, Nat.le_refl _, fun _ => by rw [HR.out, Nat.sub_self, List.take_zero], fun h => by omega, by rw [List.length_append, List.length_singleton]; exact HL1.out, by rw [List.length_append, List.length_singleton, List.map_append, List.map_singleton, ← HXT.out]; exact HO6.out, Below.grown HB.out HG6.out HB.out.size (fun g' hg' => (HO.out.lt g' hg').1)⟩
        case measure => simp [intOf]; omega
      · have HR := Lib.hid (show L = l ++ glue ((s.drop fr).take (i + 1 - fr)) (cutL c (s.drop (i + 1))) by
          rw [HG.out, hdr, glue_step _ _ hyc]
          congr 2
          have e1 : i + 1 - fr = (i - fr) + 1 := by omega
          rw [e1, List.take_add_one, List.getElem?_drop, show fr + (i - fr) = i by omega, hy]
          rfl)
        have hyn : ((y.toNat : Int) == (c.toNat : Int)) = false := by
          rw [beq_eq_false_iff_ne]; exact fun h => hyc (UInt8.toNat_inj.1 (by omega))
        clear hdr hyc
        go_wp2_with fail
        go_roundw
        case rel => exact ⟨i + 1, fr, l, _, by omega, by go_num, rfl, rfl, by omega, fun _ => HR.out, fun h => by omega, HLL.out, HO.out, HB.out⟩
        case measure => simp [intOf]; omega
    · have hie : i = s.length := by omega
      have hne : ((i : Int) == (s.length : Int)) = true := by rw [beq_iff_eq]; omega
      have HR := Lib.hid (show L = l ++ [(s.drop fr).take (i - fr)] by
        rw [HG.out, hie, List.drop_length]; simp [cutL, glue])
      have HL1 := Lib.hid (show l.length + 1 ≤ 100001 by
        have h := congrArg List.length HR.out
        have hz := HLEN.out
        rw [List.length_append, List.length_singleton] at h
        omega)
      clear hie
      have hsl : (ByteArray.mk s.toArray).extract fr i = ByteArray.mk ((s.drop fr).take (i - fr)).toArray := ByteArray.extract_mk s fr i
      have HSL := Lib.hid hsl
      have hfr2 : (fr : Int) ≤ (i : Int) := by omega
      have hle2 : (i : Int) ≤ (s.length : Int) := by omega
      obtain ⟨X, hX⟩ : ∃ X, X = (ByteArray.mk s.toArray).extract fr i := ⟨_, rfl⟩
      have hX2 : (ByteArray.mk s.toArray).extract fr i = X := hX.symm
      have HXT := Lib.hid (show Value.string X = txt ((s.drop fr).take (i - fr)) by rw [hX, hsl]; rfl)
      clear hsl hX
      go_wp2_with (at_builtin; refine wpList_str rfl _ _ rfl w.heap.size v0 l X rfl rfl HO.out (by have := HLL.out; omega) HB.out.size ?_; intro v6 w6 ho6 hg6; have HO6 := Lib.hid ho6; have HG6 := Lib.hid hg6; clear ho6 hg6)
      go_roundw
      case rel =>
        refine ⟨i + 1, i + 1, l ++ [(s.drop fr).take (i - fr)], _, by omega, by go_num, by go_num, rfl, Nat.le_refl _, fun h => by omega, fun _ => HR.out, by rw [List.length_append, List.length_singleton]; exact HL1.out, by rw [List.length_append, List.length_singleton, List.map_append, List.map_singleton, ← HXT.out]; exact HO6.out, Below.grown HB.out HG6.out HB.out.size (fun g' hg' => (HO.out.lt g' hg').1)⟩
      case measure => simp [intOf]; omega
end Go.Proofs.Ytfijdlbcpmnbhaa
